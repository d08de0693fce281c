/-
  Contracts of package fix: sums and dot products of lists.
-/
import Derived.Test.YtlpecdfiagklpaaFixW
import Derived.Test.YtlpecdfiagklpaaFixLists
import Derived.LoopTactic
import Derived.OpenShut
namespace Go.Proofs.Ytlpecdfiagklpaa
open Go.RowKit
set_option linter.unusedVariables false
set_option linter.unusedSimpArgs false

set_option maxHeartbeats 1000000 in
theorem dot_any (a b : Option Addr) (len1 cap1 len2 cap2 : Nat) (ys zs : List Int) (w : World) (h : IntsAt w a len1 ys) (h' : IntsAt w b len2 zs) :
    Calls Try.prog 29 #[.slice a len1 cap1, .slice b len2 cap2] w fun e w' => e = .returned (.int .i64 (dotF ys zs)) ∧ ∃ n, w' = w.drewN n := by
  obtain ⟨h1, h2, h3, h4⟩ := h
  obtain ⟨k1, k2, k3, k4⟩ := h'
  go_enter Try.func29, Try.ntmps29
  go_wp2_with fail
  go_loopw [5, 6] (fun t i wr => ∃ k n : Nat, k ≤ len1 ∧ k ≤ len2 ∧ i = .int .i64 k ∧ t = .int .i64 (dotF (ys.take k) (zs.take k)) ∧ wr = w.drewN n) (fun _ i _ => len1 - (intOf i).toNat)
  case atStart => exact ⟨0, 0, Nat.zero_le _, Nat.zero_le _, rfl, rfl, rfl⟩
  case round =>
    obtain ⟨k, n, hk, hk', rfl, rfl, rfl⟩ := hrel
    have sb := dotF_bounds (ys.take k) (zs.take k)
    by_cases hlt : k < len1
    · by_cases hlt' : k < len2
      · rcases h4 with h4 | ⟨b, off, rfl, hc⟩
        · omega
        · rcases k4 with k4 | ⟨b', off', rfl, hc'⟩
          · omega
          · have hcell := hc k hlt
            have hcell' := hc' k hlt'
            clear hc hc'
            have hstep := Lib.hid (dotF_step ys zs k (by omega) (by omega))
            obtain ⟨x1, x2⟩ := h3.getD k
            obtain ⟨y1, y2⟩ := k3.getD k
            generalize ys.getD k 0 = x at *
            generalize zs.getD k 0 = y at *
            generalize dotF (ys.take k) (zs.take k) = t at *
            clear h1 h3 k1 k3
            have mb := mulF_bounds x y
            obtain ⟨W, hW⟩ : ∃ W, w.drewN n = W := ⟨_, rfl⟩
            have e1 : W.cell? ⟨b, off + k, none⟩ = some (.int .i64 x) := by rw [← hW]; exact hcell
            have e2 : W.cell? ⟨b', off' + k, none⟩ = some (.int .i64 y) := by rw [← hW]; exact hcell'
            rw [hW]
            have HW := Lib.hid hW; clear hW hcell hcell'
            have C1 := Lib.hid (fun w => flipW (mul_any x y w x1 x2 y1 y2))
            have C2 := Lib.hid (fun w => flipW (add_any t (mulF x y) w sb.1 sb.2 mb.1 mb.2))
            clear sb mb x1 x2 y1 y2
            go_wp2_with fail
            go_quiet ((first | (go_at_call 34; exact Calls.quiet_of_same (C1.out _)) | (go_at_call 31; exact Calls.quiet_of_same (C2.out _))))
            go_wp2_with fail
            go_roundw
            case rel => exact ⟨k + 1, _, by omega, by omega, by go_num, by rw [hstep.out], by rw [← HW.out, World.drewN_drewN]⟩
            case measure => (simp [intOf]; try omega)
      · have e : Hid (dotF (ys.take k) (zs.take k) = dotF ys zs) := dotF_full ys zs k (by omega)
        generalize dotF (ys.take k) (zs.take k) = t at *
        clear h1 h3 k1 k3 h4 k4 sb
        go_wp2_with fail
        go_ret
        exact ⟨ret_int e.out, n, rfl⟩
    · have e : Hid (dotF (ys.take k) (zs.take k) = dotF ys zs) := dotF_full ys zs k (by omega)
      generalize dotF (ys.take k) (zs.take k) = t at *
      clear h1 h3 k1 k3 h4 k4 sb
      go_wp2_with fail
      go_ret
      exact ⟨ret_int e.out, n, rfl⟩
end Go.Proofs.Ytlpecdfiagklpaa
