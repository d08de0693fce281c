/-
  The walk of the statement FixLists.
-/
import Derived.Test.YtgeomaaflajchaaAwake01
import Derived.Test.YtgeomaaflajchaaRef01M
import Derived.Deep.RegionWith
namespace Go.Proofs.Ytgeomaaflajchaa
open Go.RowKit
set_option linter.unusedVariables false
set_option linter.unusedSimpArgs false

set_option maxHeartbeats 4000000 in
theorem fixLists_walk (a : Option Addr) (len1 cap1 : Nat) (ys : List Int) (b : Option Addr) (len2 cap2 : Nat) (zs : List Int) (w : World) (h : IntsAt w a len1 ys) (h' : IntsAt w b len2 zs) :
    Calls Try.prog 7 #[.slice a len1 cap1, .slice b len2 cap2] w fun e w' => e = .returned (.bool true) ∧ Below w.heap.size w w' := by
  by_cases g1 : 200 < len1
  · go_enter Try.func7, Try.ntmps7
    go_wp2_with fail
    refine (awake01_any _).mono ?_
    rintro e w2 ⟨rfl, hb2⟩
    go_wp2_with fail
    go_ret
    exact ⟨rfl, hb2⟩
  by_cases g2 : 200 < len2
  · go_enter Try.func7, Try.ntmps7
    go_wp2_with fail
    refine (awake01_any _).mono ?_
    rintro e w2 ⟨rfl, hb2⟩
    go_wp2_with fail
    go_ret
    exact ⟨rfl, hb2⟩
  obtain ⟨h1, h2, h3, h4⟩ := h
  obtain ⟨k1, k2, k3, k4⟩ := h'
  go_enter Try.func7, Try.ntmps7
  go_wp2_with fail
  go_loop [5, 21] (fun t i => ∃ k : Nat, k ≤ len1 ∧ i = .int .i64 k ∧ t = .int .i64 (sumF (ys.take k))) (fun _ i => len1 - (intOf i).toNat)
  case atStart => exact ⟨0, Nat.zero_le _, rfl, rfl⟩
  case round =>
    obtain ⟨k, hk, rfl, rfl⟩ := hrel
    have sb := sumF_bounds (ys.take k)
    by_cases hlt : k < len1
    · rcases h4 with h4 | ⟨b, off, rfl, hc⟩
      · omega
      · have hcell := hc k hlt
        clear hc
        have hstep := Lib.hid (sumF_step ys k (by omega))
        obtain ⟨x1, x2⟩ := h3.getD k
        generalize ys.getD k 0 = x at *
        generalize sumF (ys.take k) = t at *
        clear h1 h3 k1 k3
        have C := Lib.hid (refadd_any t x w sb.1 sb.2 x1 x2)
        clear sb
        go_wp2_with fail
        refine C.out.mono ?_
        rintro e w' ⟨rfl, rfl⟩
        go_wp2_with fail
        go_round
        case rel => exact ⟨k + 1, by omega, by go_num, by rw [hstep.out]⟩
        case measure => (simp [intOf]; try omega)
    · have e : Hid (sumF (ys.take k) = sumF ys) := by show _ = _; rw [List.take_of_length_le (by omega)]
      rw [e.out]
      clear e sb
      obtain ⟨S, hS⟩ : ∃ S, sumF ys = S := ⟨_, rfl⟩
      rw [hS]
      have HS := Lib.hid hS; clear hS
      obtain ⟨mn, hmn⟩ : ∃ mn : Nat, min (len1 : Int) (len2 : Int) = (mn : Int) := ⟨min len1 len2, by omega⟩
      have m1 : mn ≤ len1 := by omega
      have m2 : mn ≤ len2 := by omega
      have hfull := Lib.hid (dotF_full ys zs mn (by omega))
      have HI := Lib.hid (IntsAt.intro h1 h2 h3 h4)
      have HI' := Lib.hid (IntsAt.intro k1 k2 k3 k4)
      go_wp2_with fail
      clear hmn
      go_loopw [6, 34] (fun t i wr => ∃ k : Nat, k ≤ mn ∧ i = .int .i64 k ∧ t = .int .i64 (dotF (ys.take k) (zs.take k)) ∧ Below w.heap.size w wr) (fun _ i _ => mn - (intOf i).toNat)
      case atStart => exact ⟨0, Nat.zero_le _, rfl, rfl, Below.refl _ _⟩
      case round =>
        obtain ⟨k, hk, rfl, rfl, hb⟩ := hrel
        have sb := dotF_bounds (ys.take k) (zs.take k)
        by_cases hlt : k < mn
        · rcases h4 with h4 | ⟨b, off, rfl, hc⟩
          · omega
          · rcases k4 with k4 | ⟨b', off', rfl, hc'⟩
            · omega
            · have hcell := cell_later hb (hc k (by omega))
              have hcell' := cell_later hb (hc' k (by omega))
              clear hc hc'
              have hstep := Lib.hid (dotF_step ys zs k (by omega) (by omega))
              obtain ⟨x1, x2⟩ := h3.getD k
              obtain ⟨y1, y2⟩ := k3.getD k
              generalize ys.getD k 0 = x at *
              generalize zs.getD k 0 = y at *
              generalize dotF (ys.take k) (zs.take k) = t at *
              clear h1 h3 k1 k3 HI HI'
              have mb := mulF_bounds x y
              have C1 := Lib.hid (fun w => refmul_any x y w x1 x2 y1 y2)
              have C2 := Lib.hid (fun w => refadd_any t (mulF x y) w sb.1 sb.2 mb.1 mb.2)
              have kl1 : k < len1 := by omega
              have kl2 : k < len2 := by omega
              clear sb mb x1 x2 y1 y2
              go_wp2_with fail
              go_region_with (first | (go_at_call 10; refine (C1.out _).mono ?_; rintro e w1 ⟨rfl, hb1⟩) | (go_at_call 15; refine (C2.out _).mono ?_; rintro e w' ⟨rfl, rfl⟩))
              all_goals
                go_wp2_with fail
                go_roundw
                case rel => exact ⟨k + 1, by omega, by go_num, by rw [hstep.out], by first | exact (hb.drew).trans (hb1.mono hb.size) | exact hb.trans (hb1.mono hb.size) | exact (below_drewN' hb _).trans (hb1.mono hb.size)⟩
                case measure => (simp [intOf]; try omega)
        · obtain rfl : k = mn := by omega
          have e : Hid (dotF (ys.take k) (zs.take k) = dotF ys zs) := hfull.out
          rw [e.out]
          clear e sb hfull
          have J := Lib.hid (fun w => sum_any a len1 cap1 ys w)
          have J' := Lib.hid (fun w => dot_any a b len1 cap1 len2 cap2 ys zs w)
          have G := Lib.hid (HI.out.below fun p v hp => cell_later hb hp)
          have G' := Lib.hid (HI'.out.below fun p v hp => cell_later hb hp)
          rw [HS.out] at J
          generalize dotF ys zs = T at *
          clear h1 h3 h4 k1 k3 k4 HI HI'
          go_wp2_with fail
          refine (J.out _ G.out).mono ?_
          rintro e w' ⟨rfl, rfl⟩
          go_wp2_with fail
          refine (J'.out _ G.out G'.out).mono ?_
          rintro e w' ⟨rfl, n, rfl⟩
          go_wp2_with fail
          refine (awake01_any _).mono ?_
          rintro e w2 ⟨rfl, hb2⟩
          go_wp2_with fail
          go_ret
          exact ⟨rfl, (below_drewN' hb n).trans (hb2.mono (by simpa using hb.size))⟩
end Go.Proofs.Ytgeomaaflajchaa
