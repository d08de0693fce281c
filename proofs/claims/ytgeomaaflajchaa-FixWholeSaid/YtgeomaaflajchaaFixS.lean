/-
  Contracts of package fix: sums and dot products of lists.
-/
import Derived.Test.YtgeomaaflajchaaFixD
import Derived.Test.YtgeomaaflajchaaFixLists
import Derived.LoopTactic
import Derived.OpenShut
namespace Go.Proofs.Ytgeomaaflajchaa
open Go.RowKit
set_option linter.unusedVariables false
set_option linter.unusedSimpArgs false

theorem flipW {P : Program} {f : FuncId} {args : Array Value} {w : World} {v : Value} (h : Calls P f args w fun e w' => e = .returned v ∧ w = w') : Calls P f args w fun e w' => e = .returned v ∧ w' = w :=
  h.mono fun _ _ ⟨he, hw⟩ => ⟨he, hw.symm⟩

/-- A slice holds these integers. -/
def IntsAt (w : World) (a : Option Addr) (len : Nat) (zs : List Int) : Prop :=
  zs.length = len ∧ len ≤ 9223372036854775807 ∧ Fits zs ∧ (len = 0 ∨ ∃ b off, a = some ⟨b, off, none⟩ ∧ ∀ j, j < len → w.cell? ⟨b, off + j, none⟩ = some (.int .i64 (zs.getD j 0)))

theorem IntsAt.nil (w : World) (a : Option Addr) : IntsAt w a 0 [] := ⟨rfl, by omega, (fun n hn => (List.not_mem_nil hn).elim), .inl rfl⟩

theorem IntsAt.of_row {w : World} {x : Addr} {len cap : Nat} {zs : List Int} (hl : len ≤ cap) (hm : cap ≤ maxLen) (hz : zs.length = cap)
    (hcell : ∀ i, i < zs.length → w.cell? (x.add i) = some (.int .i64 (zs.getD i 0))) (hwz : ∀ n ∈ zs, (Lit.int .i64 n).wf = true) : IntsAt w (some x) len (zs.take len) := by
  unfold maxLen at hm
  refine ⟨by rw [List.length_take]; omega, by omega, ?_, ?_⟩
  · intro n hn
    have h := hwz n (List.mem_of_mem_take hn)
    simp [Lit.wf, IntKind.min, IntKind.max, IntKind.bits, IntKind.signed] at h
    omega
  · by_cases h0 : len = 0
    · exact .inl h0
    · obtain ⟨b, off, rfl, hc⟩ := ints_at hcell (by omega)
      refine .inr ⟨b, off, rfl, fun j hj => ?_⟩
      rw [hc j (by omega)]
      simp [List.getD, List.getElem?_take, hj]

theorem IntsAt.intro {w : World} {a : Option Addr} {len : Nat} {zs : List Int} (h1 : zs.length = len) (h2 : len ≤ 9223372036854775807) (h3 : Fits zs)
    (h4 : len = 0 ∨ ∃ b off, a = some ⟨b, off, none⟩ ∧ ∀ j, j < len → w.cell? ⟨b, off + j, none⟩ = some (.int .i64 (zs.getD j 0))) : IntsAt w a len zs := ⟨h1, h2, h3, h4⟩

theorem IntsAt.below {w w' : World} {a : Option Addr} {len : Nat} {zs : List Int} (h : IntsAt w a len zs) (hb : ∀ p v, w.cell? p = some v → w'.cell? p = some v) : IntsAt w' a len zs := by
  obtain ⟨h1, h2, h3, h4⟩ := h
  refine ⟨h1, h2, h3, ?_⟩
  rcases h4 with h4 | ⟨b, off, ha, hc⟩
  · exact .inl h4
  · exact .inr ⟨b, off, ha, fun j hj => hb _ _ (hc j hj)⟩

set_option maxHeartbeats 1000000 in
theorem sum_any (a : Option Addr) (len cap : Nat) (zs : List Int) (w : World) (h : IntsAt w a len zs) :
    Calls Try.prog 24 #[.slice a len cap] w fun e w' => e = .returned (.int .i64 (sumF zs)) ∧ w = w' := by
  obtain ⟨h1, h2, h3, h4⟩ := h
  go_enter Try.func24, Try.ntmps24
  go_wp2_with fail
  go_loop [3, 8] (fun t i => ∃ k : Nat, k ≤ len ∧ i = .int .i64 k ∧ t = .int .i64 (sumF (zs.take k))) (fun _ i => len - (intOf i).toNat)
  case atStart => exact ⟨0, Nat.zero_le _, rfl, rfl⟩
  case round =>
    obtain ⟨k, hk, rfl, rfl⟩ := hrel
    have sb := sumF_bounds (zs.take k)
    by_cases hlt : k < len
    · rcases h4 with h4 | ⟨b, off, rfl, hc⟩
      · omega
      · have hcell := hc k hlt
        clear hc
        have hstep := Lib.hid (sumF_step zs k (by omega))
        obtain ⟨x1, x2⟩ := h3.getD k
        generalize zs.getD k 0 = x at *
        generalize sumF (zs.take k) = t at *
        clear h1 h3
        have C := Lib.hid (add_any t x w sb.1 sb.2 x1 x2)
        clear sb
        go_wp2_with fail
        refine C.out.mono ?_
        rintro e w' ⟨rfl, rfl⟩
        go_wp2_with fail
        go_round
        case rel => exact ⟨k + 1, by omega, by go_num, by rw [hstep.out]⟩
        case measure => (simp [intOf]; try omega)
    · have e : Hid (sumF (zs.take k) = sumF zs) := by show _ = _; rw [List.take_of_length_le (by omega)]
      generalize sumF (zs.take k) = t at *
      clear h1 h3 h4 sb
      go_wp2_with fail
      go_ret
      exact ⟨ret_int e.out, rfl⟩

set_option maxHeartbeats 1000000 in
theorem dot_any (a b : Option Addr) (len1 cap1 len2 cap2 : Nat) (ys zs : List Int) (w : World) (h : IntsAt w a len1 ys) (h' : IntsAt w b len2 zs) :
    Calls Try.prog 25 #[.slice a len1 cap1, .slice b len2 cap2] w fun e w' => e = .returned (.int .i64 (dotF ys zs)) ∧ ∃ n, w' = w.drewN n := by
  obtain ⟨h1, h2, h3, h4⟩ := h
  obtain ⟨k1, k2, k3, k4⟩ := h'
  go_enter Try.func25, Try.ntmps25
  go_wp2_with fail
  go_loopw [5, 6] (fun t i wr => ∃ k n : Nat, k ≤ len1 ∧ k ≤ len2 ∧ i = .int .i64 k ∧ t = .int .i64 (dotF (ys.take k) (zs.take k)) ∧ wr = w.drewN n) (fun _ i _ => len1 - (intOf i).toNat)
  case atStart => exact ⟨0, 0, Nat.zero_le _, Nat.zero_le _, rfl, rfl, rfl⟩
  case round =>
    obtain ⟨k, n, hk, hk', rfl, rfl, rfl⟩ := hrel
    have sb := dotF_bounds (ys.take k) (zs.take k)
    by_cases hlt : k < len1
    · by_cases hlt' : k < len2
      · rcases h4 with h4 | ⟨b, off, rfl, hc⟩
        · omega
        · rcases k4 with k4 | ⟨b', off', rfl, hc'⟩
          · omega
          · have hcell := hc k hlt
            have hcell' := hc' k hlt'
            clear hc hc'
            have hstep := Lib.hid (dotF_step ys zs k (by omega) (by omega))
            obtain ⟨x1, x2⟩ := h3.getD k
            obtain ⟨y1, y2⟩ := k3.getD k
            generalize ys.getD k 0 = x at *
            generalize zs.getD k 0 = y at *
            generalize dotF (ys.take k) (zs.take k) = t at *
            clear h1 h3 k1 k3
            have mb := mulF_bounds x y
            obtain ⟨W, hW⟩ : ∃ W, w.drewN n = W := ⟨_, rfl⟩
            have e1 : W.cell? ⟨b, off + k, none⟩ = some (.int .i64 x) := by rw [← hW]; exact hcell
            have e2 : W.cell? ⟨b', off' + k, none⟩ = some (.int .i64 y) := by rw [← hW]; exact hcell'
            rw [hW]
            have HW := Lib.hid hW; clear hW hcell hcell'
            have C1 := Lib.hid (fun w => flipW (mul_any x y w x1 x2 y1 y2))
            have C2 := Lib.hid (fun w => flipW (add_any t (mulF x y) w sb.1 sb.2 mb.1 mb.2))
            clear sb mb x1 x2 y1 y2
            go_wp2_with fail
            go_quiet ((first | (go_at_call 9; exact Calls.quiet_of_same (C1.out _)) | (go_at_call 14; exact Calls.quiet_of_same (C2.out _))))
            go_wp2_with fail
            go_roundw
            case rel => exact ⟨k + 1, _, by omega, by omega, by go_num, by rw [hstep.out], by rw [← HW.out, World.drewN_drewN]⟩
            case measure => (simp [intOf]; try omega)
      · have e : Hid (dotF (ys.take k) (zs.take k) = dotF ys zs) := dotF_full ys zs k (by omega)
        generalize dotF (ys.take k) (zs.take k) = t at *
        clear h1 h3 k1 k3 h4 k4 sb
        go_wp2_with fail
        go_ret
        exact ⟨ret_int e.out, n, rfl⟩
    · have e : Hid (dotF (ys.take k) (zs.take k) = dotF ys zs) := dotF_full ys zs k (by omega)
      generalize dotF (ys.take k) (zs.take k) = t at *
      clear h1 h3 k1 k3 h4 k4 sb
      go_wp2_with fail
      go_ret
      exact ⟨ret_int e.out, n, rfl⟩
end Go.Proofs.Ytgeomaaflajchaa
