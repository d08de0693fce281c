import Derived.Test.YtapelgjnnccfoaaJ00
import Derived.Test.YtapelgjnnccfoaaJ01
import Derived.Test.YtapelgjnnccfoaaJ02
import Derived.Deep.DeepCutAuto
import Derived.Deep.CutBlock
import Derived.Laws.Bits64b
import Derived.Test.YtapelgjnnccfoaaRows
import Derived.WalkKit
import Derived.WalkSpells
import Derived.Lib.Hide
/-
  Contracts of the reference of layer 7: Window; of the statements' file: told.
-/
namespace Go.Proofs.Ytapelgjnnccfoaa
open Go.RowKit
set_option linter.unusedVariables false
set_option linter.unusedSimpArgs false

theorem winN_zero {side width step : Int} (h : ¬ (1 ≤ side ∧ 1 ≤ width ∧ 1 ≤ step ∧ side ≤ 1024 ∧ width ≤ 1024 ∧ step ≤ 1024 ∧ width ≤ side)) : 0 = winN side width step := by
  unfold winN
  rw [if_neg]
  rintro ⟨a, b, c, d⟩
  have := inR_bounds a
  have := inR_bounds b
  have := inR_bounds c
  omega
theorem winE_zero {side width step : Int} (h : 1 ≤ side ∧ 1 ≤ width ∧ 1 ≤ step ∧ side ≤ 1024 ∧ width ≤ 1024 ∧ step ≤ 1024 ∧ width ≤ side) : winE side width step = 0 := by
  unfold winE
  rw [if_pos]
  exact ⟨inR_yes h.1 h.2.2.2.1, inR_yes h.2.1 h.2.2.2.2.1, inR_yes h.2.2.1 h.2.2.2.2.2.1, h.2.2.2.2.2.2⟩

theorem win_sign (side width step : Int) : (winE side width step = 0 → 1 ≤ winN side width step) ∧ (winE side width step ≠ 0 → winN side width step = 0) := by
  unfold winE winN
  split
  · rename_i h
    obtain ⟨a, b, c, d⟩ := h
    have := inR_bounds c
    have h1 := Int.ediv_nonneg (a := side - width) (b := step) (by omega) (by omega)
    exact ⟨fun _ => by omega, fun h => absurd rfl h⟩
  · exact ⟨fun h => by omega, fun _ => rfl⟩

set_option maxHeartbeats 2000000 in
theorem refwin_any (side width step : Int) (w : World) :
    Calls Try.prog 31 #[.int .i64 side, .int .i64 width, .int .i64 step] w fun e w' => e = .returned (.int .i64 (winN side width step)) ∧ w = w' := by
  by_cases h0 : side < 1
  · have E := Lib.hid (winN_zero (side := side) (width := width) (step := step) (by omega))
    go_enter Try.func31, Try.ntmps31
    go_wp2_with fail
    go_ret
    exact ⟨ret_int E.out, rfl⟩
  by_cases h1 : width < 1
  · have E := Lib.hid (winN_zero (side := side) (width := width) (step := step) (by omega))
    go_enter Try.func31, Try.ntmps31
    go_wp2_with fail
    go_ret
    exact ⟨ret_int E.out, rfl⟩
  by_cases h2 : step < 1
  · have E := Lib.hid (winN_zero (side := side) (width := width) (step := step) (by omega))
    go_enter Try.func31, Try.ntmps31
    go_wp2_with fail
    go_ret
    exact ⟨ret_int E.out, rfl⟩
  by_cases h3 : 1024 < side
  · have E := Lib.hid (winN_zero (side := side) (width := width) (step := step) (by omega))
    go_enter Try.func31, Try.ntmps31
    go_wp2_with fail
    go_ret
    exact ⟨ret_int E.out, rfl⟩
  by_cases h4 : 1024 < width
  · have E := Lib.hid (winN_zero (side := side) (width := width) (step := step) (by omega))
    go_enter Try.func31, Try.ntmps31
    go_wp2_with fail
    go_ret
    exact ⟨ret_int E.out, rfl⟩
  by_cases h5 : 1024 < step
  · have E := Lib.hid (winN_zero (side := side) (width := width) (step := step) (by omega))
    go_enter Try.func31, Try.ntmps31
    go_wp2_with fail
    go_ret
    exact ⟨ret_int E.out, rfl⟩
  by_cases h6 : side < width
  · have E := Lib.hid (winN_zero (side := side) (width := width) (step := step) (by omega))
    go_enter Try.func31, Try.ntmps31
    go_wp2_with fail
    go_ret
    exact ⟨ret_int E.out, rfl⟩
  obtain ⟨S, rfl⟩ := nat_of (z := side) (by omega)
  obtain ⟨L, rfl⟩ := nat_of (z := width) (by omega)
  obtain ⟨T, rfl⟩ := nat_of (z := step) (by omega)
  have hE := winE_zero (side := S) (width := L) (step := T) (by omega)
  have EW := Lib.hid (winN_nat hE)
  have EN := Lib.hid (fun k (a : ¬ k * T + L ≤ S) b => winC_end (side := S) (width := L) (step := T) (k := k) (by omega) (by omega) (by omega) a b)
  clear hE
  go_enter Try.func31, Try.ntmps31
  go_wp2_with fail
  go_loop [7, 8] (fun n a => ∃ k q : Nat, n = .int .i64 k ∧ a = .int .i64 q ∧ Hid (q = k * T) ∧ k ≤ q ∧ q ≤ S + T ∧ Hid (∀ j, j < k → j * T + L ≤ S)) (fun _ a => S + T - (intOf a).toNat)
  case atStart => exact ⟨0, 0, rfl, rfl, Lib.hid (by simp), by omega, by omega, Lib.hid (fun j hj => by omega)⟩
  case round =>
    obtain ⟨k, q, rfl, rfl, hq, hkq, hqS, hall⟩ := hrel
    by_cases hlt : q + L ≤ S
    · have hlt' : (q : Int) + (L : Int) ≤ (S : Int) := by omega
      have N1 : Hid (q + T = (k + 1) * T) := Lib.hid (by rw [hq.out, Nat.add_mul, Nat.one_mul])
      have N2 : Hid (∀ j, j < k + 1 → j * T + L ≤ S) := Lib.hid (fun j hj => by
        by_cases c : j = k
        · rw [c, ← hq.out]; exact hlt
        · exact hall.out j (by omega))
      clear hq hall
      go_wp2_with fail
      go_round
      case rel => exact ⟨k + 1, q + T, by go_num, by go_num, N1, by omega, by omega, N2⟩
      case measure => (simp [intOf]; try omega)
    · have hlt' : ¬ (q : Int) + (L : Int) ≤ (S : Int) := by omega
      have E := Lib.hid (EN.out k (by rw [← hq.out]; exact hlt) hall.out)
      clear hq hall
      go_wp2_with fail
      go_ret
      exact ⟨ret_int (by rw [EW.out, ← E.out]), rfl⟩

set_option maxRecDepth 100000 in
set_option maxHeartbeats 4000000 in
theorem told_form_any (a1 : Option Addr) (l1 c1 : Nat) (ws : List Int) (a2 : Option Addr) (l2 c2 : Nat) (xs : List Int) (s : Int) (w : World) (h : IntsAt w a1 l1 ws) (h' : IntsAt w a2 l2 xs) (hf : formOk ws xs = false) :
    Calls Try.prog 11 #[.slice a1 l1 c1, .slice a2 l2 c2, .int .i64 s] w (NilE w 20) := by
  have hd := fun n => h.kept (below_drewN' (Below.refl _ _) n)
  have hd' := fun n => h'.kept (below_drewN' (Below.refl _ _) n)
  have C := fun n => flipW (refshape_any a1 l1 c1 ws (w.drewN n) (hd n))
  have D := fun n => flipW (refshape_any a2 l2 c2 xs (w.drewN n) (hd' n))
  have hl1 := h.1
  have hl2 := h'.1
  have q1 := h.2.1
  have q2 := h'.2.1
  rw [formOk_eq] at hf
  have K1 := Lib.hid (fun (hp : 0 < l1) => ints_cell h hp)
  have K2 := Lib.hid (fun (hp : 0 < l2) => ints_cell h' hp)
  clear h h' hd hd'
  cases b1 : rightS ws
  · simp only [b1] at C
    have C1 := Lib.hid C
    clear C D b1 hf K1 K2
    go_enter Try.func11, Try.ntmps11
    go_upto_region 1 with (fail)
    go_quiet ((go_at_call 30; exact Calls.quiet_of_same (C1.out _)))
    go_wp2_with fail
    go_ret2
    exact ⟨rfl, below_drewN' (Below.refl _ _) _⟩
  have hw4 := (rightS_parts b1).2.1
  simp only [b1] at C
  have C1 := Lib.hid C
  cases b2 : rightS xs
  · simp only [b2] at D
    have D1 := Lib.hid D
    clear C D b1 b2 hf K1 K2
    go_enter Try.func11, Try.ntmps11
    go_upto_region 1 with (fail)
    go_quiet ((first | (go_at_call 30; with_reducible exact Calls.quiet_of_same (C1.out _)) | (go_at_call 30; with_reducible exact Calls.quiet_of_same (D1.out _))))
    go_wp2_with fail
    go_ret2
    exact ⟨rfl, below_drewN' (Below.refl _ _) _⟩
  have hx4 := (rightS_parts b2).2.1
  simp only [b2] at D
  have D1 := Lib.hid D
  rw [b1, b2, hl1, hl2] at hf
  rw [hl1] at hw4
  rw [hl2] at hx4
  clear C D b1 b2 hl1 hl2
  have hw9 : IntKind.i64.wrap ((l2 : Int) + 1) = (l2 : Int) + 1 := IntWalk.i64_in _ (by omega)
  by_cases e1 : (l1 : Int) = (l2 : Int) + 1
  · by_cases e2 : (l2 : Int) < 2
    · clear hf K1 K2
      obtain rfl : l1 = l2 + 1 := by omega
      go_enter Try.func11, Try.ntmps11
      go_upto_region 1 with (fail)
      go_quiet ((first | (go_at_call 30; with_reducible exact Calls.quiet_of_same (C1.out _)) | (go_at_call 30; with_reducible exact Calls.quiet_of_same (D1.out _))))
      go_wp2_with fail
      go_ret2
      exact ⟨rfl, below_drewN' (Below.refl _ _) _⟩
    by_cases e3 : 3 < (l2 : Int)
    · clear hf K1 K2
      obtain rfl : l1 = l2 + 1 := by omega
      go_enter Try.func11, Try.ntmps11
      go_upto_region 1 with (fail)
      go_quiet ((first | (go_at_call 30; with_reducible exact Calls.quiet_of_same (C1.out _)) | (go_at_call 30; with_reducible exact Calls.quiet_of_same (D1.out _))))
      go_wp2_with fail
      go_ret2
      exact ⟨rfl, below_drewN' (Below.refl _ _) _⟩
    · have hne : ¬ ws.getD 1 0 = xs.getD 0 0 := by
        intro e
        rw [decide_eq_true (show l1 = l2 + 1 by omega), decide_eq_true (show l2 = 2 ∨ l2 = 3 by omega), decide_eq_true e] at hf
        simp at hf
      obtain ⟨b, off, rfl, hc⟩ := K1.out (by omega)
      obtain ⟨b', off', rfl, hc'⟩ := K2.out (by omega)
      have k1 := hc 1 (by omega)
      have k2 := hc' 0 (by omega)
      rw [Nat.add_zero] at k2
      obtain ⟨x, hx⟩ : ∃ x, ws.getD 1 0 = x := ⟨_, rfl⟩
      obtain ⟨y, hy⟩ : ∃ y, xs.getD 0 0 = y := ⟨_, rfl⟩
      rw [hx] at k1 hne
      rw [hy] at k2 hne
      clear hc hc' hx hy K1 K2 hf
      rcases (show l2 = 2 ∨ l2 = 3 by omega) with rfl | rfl
      · obtain rfl : l1 = 3 := by omega
        go_enter Try.func11, Try.ntmps11
        go_upto_region 1 with (fail)
        go_quiet ((first | (go_at_call 30; with_reducible exact Calls.quiet_of_same (C1.out _)) | (go_at_call 30; with_reducible exact Calls.quiet_of_same (D1.out _))))
        go_wp2_with fail
        go_ret2
        exact ⟨rfl, below_drewN' (Below.refl _ _) _⟩
      · obtain rfl : l1 = 4 := by omega
        go_enter Try.func11, Try.ntmps11
        go_upto_region 1 with (fail)
        go_quiet ((first | (go_at_call 30; with_reducible exact Calls.quiet_of_same (C1.out _)) | (go_at_call 30; with_reducible exact Calls.quiet_of_same (D1.out _))))
        go_wp2_with fail
        go_ret2
        exact ⟨rfl, below_drewN' (Below.refl _ _) _⟩
  · have e1b : ((l1 : Int) != (l2 : Int) + 1) = true := by simpa using e1
    clear hf K1 K2
    go_enter Try.func11, Try.ntmps11
    go_upto_region 1 with (fail)
    go_quiet ((first | (go_at_call 30; with_reducible exact Calls.quiet_of_same (C1.out _)) | (go_at_call 30; with_reducible exact Calls.quiet_of_same (D1.out _))))
    go_wp2_with fail
    go_ret2
    exact ⟨rfl, below_drewN' (Below.refl _ _) _⟩

set_option maxRecDepth 100000 in
set_option maxHeartbeats 4000000 in
theorem told_ok_2 (a1 : Option Addr) (c1 : Nat) (ws : List Int) (a2 : Option Addr) (c2 : Nat) (xs : List Int) (s : Int) (w : World) (h : IntsAt w a1 3 ws) (h' : IntsAt w a2 2 xs) (hf : formOk ws xs = true) :
    Calls Try.prog 11 #[.slice a1 3 c1, .slice a2 2 c2, .int .i64 s] w (ShapeR w ws xs s) := by
  have hd := fun n => h.kept (below_drewN' (Below.refl _ _) n)
  have hd' := fun n => h'.kept (below_drewN' (Below.refl _ _) n)
  have C := fun n => flipW (refshape_any a1 3 c1 ws (w.drewN n) (hd n))
  have D := fun n => flipW (refshape_any a2 2 c2 xs (w.drewN n) (hd' n))
  obtain ⟨b1, b2, -, -, hh⟩ := formOk_parts hf
  simp only [b1] at C
  simp only [b2] at D
  have C1 := Lib.hid C
  have D1 := Lib.hid D
  have HF := Lib.hid hf
  have HL := Lib.hid h'.1
  obtain ⟨b, off, rfl, hc⟩ := ints_cell h (by omega)
  obtain ⟨b', off', rfl, hc'⟩ := ints_cell h' (by omega)
  obtain ⟨o, ho⟩ : ∃ o, ws.getD 0 0 = o := ⟨_, rfl⟩
  obtain ⟨y, hy⟩ : ∃ y, ws.getD 1 0 = y := ⟨_, rfl⟩
  have KW := Lib.hid (fun w1 (hb : Below w.heap.size w w1) j (hj : j < 3) => cell_later hb (hc j hj))
  have KX := Lib.hid (fun w1 (hb : Below w.heap.size w w1) j (hj : j < 2) => cell_later hb (hc' j hj))
  have k1 := hc 1 (by omega)
  have k2 := hc' 0 (by omega)
  have k0 := hc 0 (by omega)
  rw [Nat.add_zero] at k2 k0
  rw [← hh, hy] at k2
  rw [hy] at k1
  rw [ho] at k0
  have hst : (outS ws xs s).take 1 = [o] := by rw [outS_start hf, ho]
  have HST := Lib.hid hst
  have HOUT := Lib.hid (outS_length (s := s) hf)
  have hff := Lib.hid (outS_fits (s := s) hf)
  clear C D h h' hf hc hc' hst hh ho hy hd hd' b1 b2
  go_enter Try.func11, Try.ntmps11
  go_upto_region 1 with (fail)
  go_quiet ((first | (go_at_call 30; with_reducible exact Calls.quiet_of_same (C1.out _)) | (go_at_call 30; with_reducible exact Calls.quiet_of_same (D1.out _))))
  go_upto_region 4 with (fail)
  obtain ⟨w1, hw1⟩ : ∃ w1, w.drewN nq = w1 := ⟨_, rfl⟩
  have hb1 : Below w.heap.size w w1 := by rw [← hw1]; exact below_drewN' (Below.refl _ _) nq
  have B1 := Lib.hid hb1
  rw [hw1]
  have hr1 := row_new w1 3 [o] 1 rfl (by omega)
  have hb : Below w1.heap.size w1 (w1.alloc (.cells ([o].map (Value.int .i64)).toArray 3)) := (Below.refl _ _).alloc (Nat.le_refl _) _
  simp only [List.map_cons, List.map_nil] at hr1 hb
  obtain ⟨w2, hnew⟩ : ∃ wn, w1.alloc (.cells [Value.int .i64 o].toArray 3) = wn := ⟨_, rfl⟩
  have hsz : w.heap.size = w1.heap.size := by rw [← hw1]; rfl
  rw [hsz]
  rw [hnew] at hr1 hb ⊢
  have HR2 := Lib.hid hr1
  have bq1 := Lib.hid hb
  clear hr1 hb hnew hb1 hw1 k0 k1 k2 hsz
  go_wp2_with fail
  obtain ⟨i0, hi, hz0, hz1, hz2⟩ := info_parts intInfo
  go_loopw [8, 9] (fun t i wr => ∃ j : Nat, j + 1 ≤ 2 ∧ i = .int .i64 ((j + 1 : Nat) : Int) ∧ Hid (wr.ownsRow w1.heap.size 3 1 t (j + 1) (((outS ws xs s).take (j + 1)).map (Value.int .i64))) ∧ Hid (Below w1.heap.size w1 wr) ∧ Hid (∀ q, q < j → winE (xs.getD (q + 1) 0) (ws.getD (q + 2) 0) s = 0)) (fun _ i _ => 2 - (intOf i).toNat)
  case atStart => exact ⟨0, by omega, rfl, Lib.hid (by rw [HST.out]; exact HR2.out), bq1, Lib.hid (fun q hq => by omega)⟩
  case round =>
    obtain ⟨j, hj, rfl, hrow, hbr, hall⟩ := hrel
    obtain ⟨j1, hj1⟩ : ∃ j1, j + 1 = j1 := ⟨_, rfl⟩
    have HJ1 := Lib.hid hj1
    rw [hj1] at hj hrow
    rw [hj1]
    by_cases hlt : j1 < 2
    · have BW := Lib.hid (B1.out.trans (hbr.out.mono B1.out.size))
      obtain ⟨j2, hj2⟩ : ∃ j2, j1 + 1 = j2 := ⟨_, rfl⟩
      have HJ2 := Lib.hid hj2
      have hw9 : IntKind.i64.wrap ((j1 : Int) + 1) = (j2 : Int) := by rw [IntWalk.i64_in _ (by omega)]; omega
      have hj23 : j2 < 3 := by omega
      have SB := Lib.hid (fun w1 (hb : Below wr.heap.size wr w1) => (And.intro (KX.out w1 (BW.out.trans (hb.mono BW.out.size)) j1 (by omega)) (KW.out w1 (BW.out.trans (hb.mono BW.out.size)) j2 (by omega))))
      obtain ⟨k1, k2⟩ := SB.out wr (Below.refl _ _)
      have W := fun n => flipW (refwin_any (xs.getD j1 0) (ws.getD j2 0) s (wr.drewN n))
      have SE := Lib.hid (winE_or (xs.getD j1 0) (ws.getD j2 0) s)
      have ST := Lib.hid (show (outS ws xs s).take (j1 + 1) = (outS ws xs s).take j1 ++ [winN (xs.getD j1 0) (ws.getD j2 0) s] from by rw [← HJ2.out, ← HJ1.out]; exact outS_step (s := s) HF.out (j := j) (by rw [HL.out, HJ1.out]; omega))
      have NB := Lib.hid (winN_bounds (xs.getD j1 0) (ws.getD j2 0) s)
      have ER := Lib.hid (show winE (xs.getD j1 0) (ws.getD j2 0) s = 11 → toldE ws xs s = 11 from by rw [← HJ2.out, ← HJ1.out]; exact told_win (s := s) HF.out (j := j) (by rw [HL.out, HJ1.out]; omega))
      have ZN := Lib.hid (win_sign (xs.getD j1 0) (ws.getD j2 0) s)
      have GO := Lib.hid (fun (he : winE (xs.getD j1 0) (ws.getD j2 0) s = 0) q (hq : q < j1) => (show winE (xs.getD (q + 1) 0) (ws.getD (q + 2) 0) s = 0 from by
        by_cases c : q = j
        · rw [c, show j + 2 = (j + 1) + 1 from rfl, HJ1.out, HJ2.out]; exact he
        · exact hall.out q (by have := HJ1.out; omega)))
      obtain ⟨u, hu⟩ : ∃ u, winE (xs.getD j1 0) (ws.getD j2 0) s = u := ⟨_, rfl⟩
      obtain ⟨v, hv⟩ : ∃ v, winN (xs.getD j1 0) (ws.getD j2 0) s = v := ⟨_, rfl⟩
      rw [hu] at SE ER GO ZN
      rw [hv] at ST NB ZN
      simp only [hv] at W
      obtain ⟨ya, hya⟩ : ∃ y, xs.getD j1 0 = y := ⟨_, rfl⟩
      obtain ⟨yb, hyb⟩ : ∃ y, ws.getD j2 0 = y := ⟨_, rfl⟩
      rw [hya] at k1
      rw [hyb] at k2
      simp only [hya, hyb] at W
      have W1 := Lib.hid W
      have nv := NB.out
      clear hu hv W hya hyb hj2
      rcases SE.out with rfl | rfl
      · have GO' := Lib.hid (GO.out rfl)
        have hv1 : ¬ v = 0 := by have := ZN.out.1 rfl; omega
        obtain ⟨L0, hL0⟩ : ∃ L, ((outS ws xs s).take j1).map (Value.int .i64) = L := ⟨_, rfl⟩
        have HL0 := Lib.hid hL0
        clear GO SE ER hL0
        go_wp2_with fail
        go_quiet ((go_at_call 31; exact Calls.quiet_of_same (W1.out _)))
        obtain ⟨wq, hwq⟩ : ∃ wq, wr.drewN nq = wq := ⟨_, rfl⟩
        have bq : Below wr.heap.size wr wq := by rw [← hwq]; exact below_drewN' (Below.refl _ _) nq
        have hrow2 := row_kept hrow.out bq
        have hbr2 := Lib.hid (hbr.out.trans (bq.mono hbr.out.size))
        rw [hwq]
        have hrw := hrow2.alloc (.cells #[.int .i64 v] 3)
        rw [HL0.out] at hrw
        have hrow3 := Lib.hid hrow2
        have hnew := box_cell wq v 3
        have hone : ∀ u ∈ [Value.int .i64 v], u.oneCell' = true := by intro u hu; simp at hu; subst hu; rfl
        have hb6 : j1 + 1 ≤ maxLen := by unfold maxLen; omega
        have hb7 : (j1 + 1) * 8 ≤ 140737488355328 := by omega
        have hb8 : w1.heap.size ≤ (wq.alloc (.cells #[.int .i64 v] 3)).heap.size := by have := hbr2.out.size; simp; omega
        clear hwq bq hrow2
        go_wp2_with (at_builtin; refine wpList_append_own _ rfl _ _ 22 rfl w1.heap.size 3 i0 (.int .i64 0) 1 8 Try.underlying22 hi hz0 hz1 hz2 rfl (by decide) _ j1 _ rfl hrw ⟨wq.heap.size, 0, none⟩ 1 1 [.int .i64 v] rfl rfl hnew hone hb6 hb7 hb8 ?_)
        intro v' w5 hown hgrow hnil
        rw [← HL0.out, ← snoc_int, ← ST.out] at hown
        have hown' := Lib.hid hown
        have hb5 := Lib.hid ((hbr2.out.alloc hbr2.out.size (.cells #[.int .i64 v] 3)).grown hgrow hb8 (fun q' hq' => (hrow3.out.lt q' hq').1))
        clear hown hgrow hnil hnew hone hb6 hb7 hb8 hrw k1 k2
        go_wp2_with fail
        go_roundw
        case rel => exact ⟨j1, by omega, by rw [HJ2.out], hown', hb5, GO'⟩
        case measure => (simp [intOf]; have := HJ2.out; omega)
      · have ER' := Lib.hid (ER.out rfl)
        have hv0 : v = 0 := ZN.out.2 (by omega)
        subst hv0
        clear GO SE ER
        go_wp2_with fail
        go_quiet ((go_at_call 31; exact Calls.quiet_of_same (W1.out _)))
        go_wp2_with fail
        go_ret2
        exact ShapeR.err ER'.out (by omega) ⟨rfl, below_drewN' BW.out _⟩
    · obtain rfl : j1 = 2 := by omega
      have HWI := Lib.hid (wins_yes (s := s) HF.out (fun q hq => hall.out q (by rw [HL.out] at hq; have := HJ1.out; omega)))
      rw [List.take_of_length_le (by rw [HOUT.out, HL.out]; omega)] at hrow
      have hq := Joins.ownsRow_le hrow.out B1.out.size
      obtain ⟨g, c, e1⟩ := Joins.ownsRow_form hrow.out (by omega)
      subst e1
      have BW := Lib.hid (B1.out.trans (hbr.out.mono B1.out.size))
      have hI := row_ints hrow.out (by omega) hff.out
      have C := refshape_any (some ⟨g, 0, none⟩) 2 c (outS ws xs s) wr hI
      have hown := Lib.hid hq
      cases hr : rightS (outS ws xs s)
      · rw [hr] at C
        have C1 := Lib.hid C
        have ER := Lib.hid (told_out HF.out HWI.out hr)
        clear C hq hI hr hrow
        go_wp2_with fail
        refine C1.out.mono ?_
        rintro e w6 ⟨rfl, rfl⟩
        go_wp2_with fail
        go_ret2
        exact ShapeR.err ER.out (by omega) ⟨rfl, BW.out⟩
      · rw [hr] at C
        have C1 := Lib.hid C
        have ER := Lib.hid (told_ok HF.out HWI.out hr)
        have P := Lib.hid (show NewE w xs.length (outS ws xs s) (.returned (.tuple #[.slice (some ⟨g, 0, none⟩) 2 c, .int .i64 0])) wr from by
          rw [HL.out]
          exact ⟨_, c, rfl, hown.out, BW.out⟩)
        clear C hq hI hr hrow
        go_wp2_with fail
        refine C1.out.mono ?_
        rintro e w6 ⟨rfl, rfl⟩
        go_wp2_with fail
        go_ret2
        exact ShapeR.ok ER.out P.out

set_option maxRecDepth 100000 in
set_option maxHeartbeats 4000000 in
theorem told_ok_3 (a1 : Option Addr) (c1 : Nat) (ws : List Int) (a2 : Option Addr) (c2 : Nat) (xs : List Int) (s : Int) (w : World) (h : IntsAt w a1 4 ws) (h' : IntsAt w a2 3 xs) (hf : formOk ws xs = true) :
    Calls Try.prog 11 #[.slice a1 4 c1, .slice a2 3 c2, .int .i64 s] w (ShapeR w ws xs s) := by
  have hd := fun n => h.kept (below_drewN' (Below.refl _ _) n)
  have hd' := fun n => h'.kept (below_drewN' (Below.refl _ _) n)
  have C := fun n => flipW (refshape_any a1 4 c1 ws (w.drewN n) (hd n))
  have D := fun n => flipW (refshape_any a2 3 c2 xs (w.drewN n) (hd' n))
  obtain ⟨b1, b2, -, -, hh⟩ := formOk_parts hf
  simp only [b1] at C
  simp only [b2] at D
  have C1 := Lib.hid C
  have D1 := Lib.hid D
  have HF := Lib.hid hf
  have HL := Lib.hid h'.1
  obtain ⟨b, off, rfl, hc⟩ := ints_cell h (by omega)
  obtain ⟨b', off', rfl, hc'⟩ := ints_cell h' (by omega)
  obtain ⟨o, ho⟩ : ∃ o, ws.getD 0 0 = o := ⟨_, rfl⟩
  obtain ⟨y, hy⟩ : ∃ y, ws.getD 1 0 = y := ⟨_, rfl⟩
  have KW := Lib.hid (fun w1 (hb : Below w.heap.size w w1) j (hj : j < 4) => cell_later hb (hc j hj))
  have KX := Lib.hid (fun w1 (hb : Below w.heap.size w w1) j (hj : j < 3) => cell_later hb (hc' j hj))
  have k1 := hc 1 (by omega)
  have k2 := hc' 0 (by omega)
  have k0 := hc 0 (by omega)
  rw [Nat.add_zero] at k2 k0
  rw [← hh, hy] at k2
  rw [hy] at k1
  rw [ho] at k0
  have hst : (outS ws xs s).take 1 = [o] := by rw [outS_start hf, ho]
  have HST := Lib.hid hst
  have HOUT := Lib.hid (outS_length (s := s) hf)
  have hff := Lib.hid (outS_fits (s := s) hf)
  clear C D h h' hf hc hc' hst hh ho hy hd hd' b1 b2
  go_enter Try.func11, Try.ntmps11
  go_upto_region 1 with (fail)
  go_quiet ((first | (go_at_call 30; with_reducible exact Calls.quiet_of_same (C1.out _)) | (go_at_call 30; with_reducible exact Calls.quiet_of_same (D1.out _))))
  go_upto_region 4 with (fail)
  obtain ⟨w1, hw1⟩ : ∃ w1, w.drewN nq = w1 := ⟨_, rfl⟩
  have hb1 : Below w.heap.size w w1 := by rw [← hw1]; exact below_drewN' (Below.refl _ _) nq
  have B1 := Lib.hid hb1
  rw [hw1]
  have hr1 := row_new w1 3 [o] 1 rfl (by omega)
  have hb : Below w1.heap.size w1 (w1.alloc (.cells ([o].map (Value.int .i64)).toArray 3)) := (Below.refl _ _).alloc (Nat.le_refl _) _
  simp only [List.map_cons, List.map_nil] at hr1 hb
  obtain ⟨w2, hnew⟩ : ∃ wn, w1.alloc (.cells [Value.int .i64 o].toArray 3) = wn := ⟨_, rfl⟩
  have hsz : w.heap.size = w1.heap.size := by rw [← hw1]; rfl
  rw [hsz]
  rw [hnew] at hr1 hb ⊢
  have HR2 := Lib.hid hr1
  have bq1 := Lib.hid hb
  clear hr1 hb hnew hb1 hw1 k0 k1 k2 hsz
  go_wp2_with fail
  obtain ⟨i0, hi, hz0, hz1, hz2⟩ := info_parts intInfo
  go_loopw [8, 9] (fun t i wr => ∃ j : Nat, j + 1 ≤ 3 ∧ i = .int .i64 ((j + 1 : Nat) : Int) ∧ Hid (wr.ownsRow w1.heap.size 3 1 t (j + 1) (((outS ws xs s).take (j + 1)).map (Value.int .i64))) ∧ Hid (Below w1.heap.size w1 wr) ∧ Hid (∀ q, q < j → winE (xs.getD (q + 1) 0) (ws.getD (q + 2) 0) s = 0)) (fun _ i _ => 3 - (intOf i).toNat)
  case atStart => exact ⟨0, by omega, rfl, Lib.hid (by rw [HST.out]; exact HR2.out), bq1, Lib.hid (fun q hq => by omega)⟩
  case round =>
    obtain ⟨j, hj, rfl, hrow, hbr, hall⟩ := hrel
    obtain ⟨j1, hj1⟩ : ∃ j1, j + 1 = j1 := ⟨_, rfl⟩
    have HJ1 := Lib.hid hj1
    rw [hj1] at hj hrow
    rw [hj1]
    by_cases hlt : j1 < 3
    · have BW := Lib.hid (B1.out.trans (hbr.out.mono B1.out.size))
      obtain ⟨j2, hj2⟩ : ∃ j2, j1 + 1 = j2 := ⟨_, rfl⟩
      have HJ2 := Lib.hid hj2
      have hw9 : IntKind.i64.wrap ((j1 : Int) + 1) = (j2 : Int) := by rw [IntWalk.i64_in _ (by omega)]; omega
      have hj23 : j2 < 4 := by omega
      have SB := Lib.hid (fun w1 (hb : Below wr.heap.size wr w1) => (And.intro (KX.out w1 (BW.out.trans (hb.mono BW.out.size)) j1 (by omega)) (KW.out w1 (BW.out.trans (hb.mono BW.out.size)) j2 (by omega))))
      obtain ⟨k1, k2⟩ := SB.out wr (Below.refl _ _)
      have W := fun n => flipW (refwin_any (xs.getD j1 0) (ws.getD j2 0) s (wr.drewN n))
      have SE := Lib.hid (winE_or (xs.getD j1 0) (ws.getD j2 0) s)
      have ST := Lib.hid (show (outS ws xs s).take (j1 + 1) = (outS ws xs s).take j1 ++ [winN (xs.getD j1 0) (ws.getD j2 0) s] from by rw [← HJ2.out, ← HJ1.out]; exact outS_step (s := s) HF.out (j := j) (by rw [HL.out, HJ1.out]; omega))
      have NB := Lib.hid (winN_bounds (xs.getD j1 0) (ws.getD j2 0) s)
      have ER := Lib.hid (show winE (xs.getD j1 0) (ws.getD j2 0) s = 11 → toldE ws xs s = 11 from by rw [← HJ2.out, ← HJ1.out]; exact told_win (s := s) HF.out (j := j) (by rw [HL.out, HJ1.out]; omega))
      have ZN := Lib.hid (win_sign (xs.getD j1 0) (ws.getD j2 0) s)
      have GO := Lib.hid (fun (he : winE (xs.getD j1 0) (ws.getD j2 0) s = 0) q (hq : q < j1) => (show winE (xs.getD (q + 1) 0) (ws.getD (q + 2) 0) s = 0 from by
        by_cases c : q = j
        · rw [c, show j + 2 = (j + 1) + 1 from rfl, HJ1.out, HJ2.out]; exact he
        · exact hall.out q (by have := HJ1.out; omega)))
      obtain ⟨u, hu⟩ : ∃ u, winE (xs.getD j1 0) (ws.getD j2 0) s = u := ⟨_, rfl⟩
      obtain ⟨v, hv⟩ : ∃ v, winN (xs.getD j1 0) (ws.getD j2 0) s = v := ⟨_, rfl⟩
      rw [hu] at SE ER GO ZN
      rw [hv] at ST NB ZN
      simp only [hv] at W
      obtain ⟨ya, hya⟩ : ∃ y, xs.getD j1 0 = y := ⟨_, rfl⟩
      obtain ⟨yb, hyb⟩ : ∃ y, ws.getD j2 0 = y := ⟨_, rfl⟩
      rw [hya] at k1
      rw [hyb] at k2
      simp only [hya, hyb] at W
      have W1 := Lib.hid W
      have nv := NB.out
      clear hu hv W hya hyb hj2
      rcases SE.out with rfl | rfl
      · have GO' := Lib.hid (GO.out rfl)
        have hv1 : ¬ v = 0 := by have := ZN.out.1 rfl; omega
        obtain ⟨L0, hL0⟩ : ∃ L, ((outS ws xs s).take j1).map (Value.int .i64) = L := ⟨_, rfl⟩
        have HL0 := Lib.hid hL0
        clear GO SE ER hL0
        go_wp2_with fail
        go_quiet ((go_at_call 31; exact Calls.quiet_of_same (W1.out _)))
        obtain ⟨wq, hwq⟩ : ∃ wq, wr.drewN nq = wq := ⟨_, rfl⟩
        have bq : Below wr.heap.size wr wq := by rw [← hwq]; exact below_drewN' (Below.refl _ _) nq
        have hrow2 := row_kept hrow.out bq
        have hbr2 := Lib.hid (hbr.out.trans (bq.mono hbr.out.size))
        rw [hwq]
        have hrw := hrow2.alloc (.cells #[.int .i64 v] 3)
        rw [HL0.out] at hrw
        have hrow3 := Lib.hid hrow2
        have hnew := box_cell wq v 3
        have hone : ∀ u ∈ [Value.int .i64 v], u.oneCell' = true := by intro u hu; simp at hu; subst hu; rfl
        have hb6 : j1 + 1 ≤ maxLen := by unfold maxLen; omega
        have hb7 : (j1 + 1) * 8 ≤ 140737488355328 := by omega
        have hb8 : w1.heap.size ≤ (wq.alloc (.cells #[.int .i64 v] 3)).heap.size := by have := hbr2.out.size; simp; omega
        clear hwq bq hrow2
        go_wp2_with (at_builtin; refine wpList_append_own _ rfl _ _ 22 rfl w1.heap.size 3 i0 (.int .i64 0) 1 8 Try.underlying22 hi hz0 hz1 hz2 rfl (by decide) _ j1 _ rfl hrw ⟨wq.heap.size, 0, none⟩ 1 1 [.int .i64 v] rfl rfl hnew hone hb6 hb7 hb8 ?_)
        intro v' w5 hown hgrow hnil
        rw [← HL0.out, ← snoc_int, ← ST.out] at hown
        have hown' := Lib.hid hown
        have hb5 := Lib.hid ((hbr2.out.alloc hbr2.out.size (.cells #[.int .i64 v] 3)).grown hgrow hb8 (fun q' hq' => (hrow3.out.lt q' hq').1))
        clear hown hgrow hnil hnew hone hb6 hb7 hb8 hrw k1 k2
        go_wp2_with fail
        go_roundw
        case rel => exact ⟨j1, by omega, by rw [HJ2.out], hown', hb5, GO'⟩
        case measure => (simp [intOf]; have := HJ2.out; omega)
      · have ER' := Lib.hid (ER.out rfl)
        have hv0 : v = 0 := ZN.out.2 (by omega)
        subst hv0
        clear GO SE ER
        go_wp2_with fail
        go_quiet ((go_at_call 31; exact Calls.quiet_of_same (W1.out _)))
        go_wp2_with fail
        go_ret2
        exact ShapeR.err ER'.out (by omega) ⟨rfl, below_drewN' BW.out _⟩
    · obtain rfl : j1 = 3 := by omega
      have HWI := Lib.hid (wins_yes (s := s) HF.out (fun q hq => hall.out q (by rw [HL.out] at hq; have := HJ1.out; omega)))
      rw [List.take_of_length_le (by rw [HOUT.out, HL.out]; omega)] at hrow
      have hq := Joins.ownsRow_le hrow.out B1.out.size
      obtain ⟨g, c, e1⟩ := Joins.ownsRow_form hrow.out (by omega)
      subst e1
      have BW := Lib.hid (B1.out.trans (hbr.out.mono B1.out.size))
      have hI := row_ints hrow.out (by omega) hff.out
      have C := refshape_any (some ⟨g, 0, none⟩) 3 c (outS ws xs s) wr hI
      have hown := Lib.hid hq
      cases hr : rightS (outS ws xs s)
      · rw [hr] at C
        have C1 := Lib.hid C
        have ER := Lib.hid (told_out HF.out HWI.out hr)
        clear C hq hI hr hrow
        go_wp2_with fail
        refine C1.out.mono ?_
        rintro e w6 ⟨rfl, rfl⟩
        go_wp2_with fail
        go_ret2
        exact ShapeR.err ER.out (by omega) ⟨rfl, BW.out⟩
      · rw [hr] at C
        have C1 := Lib.hid C
        have ER := Lib.hid (told_ok HF.out HWI.out hr)
        have P := Lib.hid (show NewE w xs.length (outS ws xs s) (.returned (.tuple #[.slice (some ⟨g, 0, none⟩) 3 c, .int .i64 0])) wr from by
          rw [HL.out]
          exact ⟨_, c, rfl, hown.out, BW.out⟩)
        clear C hq hI hr hrow
        go_wp2_with fail
        refine C1.out.mono ?_
        rintro e w6 ⟨rfl, rfl⟩
        go_wp2_with fail
        go_ret2
        exact ShapeR.ok ER.out P.out

/-- What told answers, whatever the form. -/
theorem told_any (W x : TV) (s : Int) (w : World) (h : W.At w) (h' : x.At w) :
    Calls Try.prog 11 #[.slice W.sa W.sl W.sc, .slice x.sa x.sl x.sc, .int .i64 s] w (ShapeR w W.ss x.ss s) := by
  cases hf : formOk W.ss x.ss
  · exact (told_form_any _ _ _ _ _ _ _ _ s w h.1 h'.1 hf).mono fun e w' hn => ShapeR.err (told_form hf) (by omega) hn
  · obtain ⟨-, -, g1, g2, -⟩ := formOk_parts hf
    obtain ⟨wa, wl, wc, ws, W5, W6, W7, W8⟩ := W
    obtain ⟨xa, xl, xc, xs, x5, x6, x7, x8⟩ := x
    have e1 : ws.length = wl := h.1.1
    have e2 : xs.length = xl := h'.1.1
    have k1 : IntsAt w wa wl ws := h.1
    have k2 : IntsAt w xa xl xs := h'.1
    simp only at g1 g2 hf ⊢
    rcases g2 with g2 | g2
    · obtain rfl : xl = 2 := by omega
      obtain rfl : wl = 3 := by omega
      exact told_ok_2 wa wc ws xa xc xs s w k1 k2 hf
    · obtain rfl : xl = 3 := by omega
      obtain rfl : wl = 4 := by omega
      exact told_ok_3 wa wc ws xa xc xs s w k1 k2 hf
end Go.Proofs.Ytapelgjnnccfoaa

/-
  Plain mathematics of two-word products and quotients: the school method of multiplying, and of dividing by two halves.
-/
namespace Go.Proofs.Ytapelgjnnccfoaa
set_option linter.unusedVariables false
set_option linter.unusedSimpArgs false

theorem wrap64u (n : Int) : IntKind.u64.wrap n = n % 18446744073709551616 := IntKind.wrap_u64 n
theorem wrap64u_in (n : Int) (h0 : 0 ≤ n) (h1 : n < 18446744073709551616) : IntKind.u64.wrap n = n := by rw [IntKind.wrap_u64]; omega

theorem and32 (a : Int) (h0 : 0 ≤ a) (h1 : a < 18446744073709551616) : bits .and .u64 a 4294967295 = a % 4294967296 := by
  obtain ⟨n, rfl⟩ := Int.eq_ofNat_of_zero_le h0
  have h := bits_and_u64_nat n 4294967295 (by omega) (by omega)
  have e : n &&& 4294967295 = n % 4294967296 := Nat.and_two_pow_sub_one_eq_mod n 32
  rw [e] at h
  exact h

theorem and1 (a : Int) (h0 : 0 ≤ a) (h1 : a < 18446744073709551616) : bits .and .u64 a 1 = a % 2 := by
  obtain ⟨n, rfl⟩ := Int.eq_ofNat_of_zero_le h0
  have h := bits_and_u64_nat n 1 (by omega) (by omega)
  have e : n &&& 1 = n % 2 := Nat.and_one_is_mod n
  rw [e] at h
  exact h

theorem prod_le {a b A B : Int} (ha : 0 ≤ a) (hb : 0 ≤ b) (hA : a ≤ A) (hB : b ≤ B) : 0 ≤ a * b ∧ a * b ≤ A * B :=
  ⟨Int.mul_nonneg ha hb, Int.mul_le_mul hA hB hb (by omega)⟩

theorem half_prod {a b : Int} (ha : 0 ≤ a) (hb : 0 ≤ b) (hA : a ≤ 4294967295) (hB : b ≤ 4294967295) : 0 ≤ a * b ∧ a * b ≤ 18446744065119617025 := by
  have h := prod_le ha hb hA hB
  omega

theorem split_prod (x1 x0 y1 y0 : Int) : (x1 * 4294967296 + x0) * (y1 * 4294967296 + y0) = x1 * y1 * 18446744073709551616 + (x1 * y0 + x0 * y1) * 4294967296 + x0 * y0 := by
  have e1 : x1 * 4294967296 * (y1 * 4294967296) = x1 * y1 * 18446744073709551616 := by
    have h : (18446744073709551616 : Int) = 4294967296 * 4294967296 := rfl
    rw [h]
    generalize (4294967296 : Int) = K
    ac_rfl
  have e2 : x1 * 4294967296 * y0 = x1 * y0 * 4294967296 := Int.mul_right_comm _ _ _
  have e3 : x0 * (y1 * 4294967296) = x0 * y1 * 4294967296 := (Int.mul_assoc _ _ _).symm
  rw [Int.add_mul, Int.mul_add, Int.mul_add, e1, e2, e3]
  omega

/-- The upper word of a product by halves. -/
theorem mul_hi (x y : Int) :
    x / 4294967296 * (y / 4294967296) + (x / 4294967296 * (y % 4294967296) + x % 4294967296 * (y % 4294967296) / 4294967296) / 4294967296 +
      ((x / 4294967296 * (y % 4294967296) + x % 4294967296 * (y % 4294967296) / 4294967296) % 4294967296 + x % 4294967296 * (y / 4294967296)) / 4294967296 = x * y / 18446744073709551616 := by
  have e : x * y = (x / 4294967296) * (y / 4294967296) * 18446744073709551616 + ((x / 4294967296) * (y % 4294967296) + (x % 4294967296) * (y / 4294967296)) * 4294967296 + (x % 4294967296) * (y % 4294967296) := by
    rw [← split_prod]
    congr 1 <;> omega
  rw [e]
  generalize (x / 4294967296) * (y / 4294967296) = a at *
  generalize (x / 4294967296) * (y % 4294967296) = b at *
  generalize (x % 4294967296) * (y / 4294967296) = c at *
  generalize (x % 4294967296) * (y % 4294967296) = d at *
  omega

theorem or_parts (h l : Int) (h0 : 0 ≤ h) (h1 : h < 4294967296) (l0 : 0 ≤ l) (l1 : l < 4294967296) : bits .or .u64 (h * 4294967296) l = h * 4294967296 + l := by
  obtain ⟨n, rfl⟩ := Int.eq_ofNat_of_zero_le h0
  obtain ⟨m, rfl⟩ := Int.eq_ofNat_of_zero_le l0
  have e := bits_or_u64_nat (n * 4294967296) m (by omega) (by omega)
  have f : n * 4294967296 ||| m = n * 4294967296 + m := by
    have g := Nat.shiftLeft_add_eq_or_of_lt (i := 32) (b := m) (by omega) n
    rw [Nat.shiftLeft_eq] at g
    exact g.symm
  rw [f] at e
  simp only [Int.natCast_add, Int.natCast_mul] at e
  exact e

/-- The middle two halves of a two-word number. -/
theorem or_mid (P : Int) (h0 : 0 ≤ P) (h1 : P < 79228162514264337593543950336) :
    bits .or .u64 (P / 18446744073709551616 * 4294967296) (P % 18446744073709551616 / 4294967296) = P / 4294967296 := by
  rw [or_parts _ _ (by omega) (by omega) (by omega) (by omega)]
  omega

theorem or_even (h c : Int) (h0 : 0 ≤ h) (h1 : h < 9223372036854775808) (c0 : 0 ≤ c) (c1 : c < 2) : bits .or .u64 (h * 2) c = h * 2 + c := by
  obtain ⟨n, rfl⟩ := Int.eq_ofNat_of_zero_le h0
  obtain ⟨m, rfl⟩ := Int.eq_ofNat_of_zero_le c0
  have e := bits_or_u64_nat (n * 2) m (by omega) (by omega)
  have f : n * 2 ||| m = n * 2 + m := by
    have g := Nat.shiftLeft_add_eq_or_of_lt (i := 1) (b := m) (by omega) n
    rw [Nat.shiftLeft_eq] at g
    exact g.symm
  rw [f] at e
  simp only [Int.natCast_add, Int.natCast_mul] at e
  exact e

/-- The bits of b from bit n on. -/
def topBits (b : Int) (n : Nat) : Int := b / 2 ^ n
theorem topBits_zero (b : Int) : topBits b 0 = b := by unfold topBits; simp
theorem topBits_half (b : Int) (n : Nat) : topBits b (n + 1) = topBits b n / 2 := by
  unfold topBits
  have h : (2 : Int) ^ (n + 1) = 2 ^ n * 2 := Int.pow_succ 2 n
  have hp : (0 : Int) ≤ 2 ^ n := Int.le_of_lt (Int.pow_pos (by omega))
  rw [h, Int.ediv_ediv_of_nonneg hp]
theorem topBits_nonneg (b : Int) (n : Nat) (h : 0 ≤ b) : 0 ≤ topBits b n := by
  unfold topBits
  exact Int.ediv_nonneg h (Int.le_of_lt (Int.pow_pos (by omega)))
theorem topBits_le (b : Int) (n : Nat) (h : 0 ≤ b) : topBits b n ≤ b := by
  induction n with
  | zero => rw [topBits_zero]; omega
  | succ n ih => rw [topBits_half]; have := topBits_nonneg b n h; omega
theorem topBits_le_half (b : Int) (n : Nat) (h : 0 ≤ b) : topBits b (n + 1) ≤ b / 2 := by
  have := topBits_le b n h
  rw [topBits_half]; omega
theorem topBits_top (b : Int) (n : Nat) (h : 0 ≤ b) (hb : b < 2 ^ n) : topBits b n = 0 := by
  unfold topBits
  exact Int.ediv_eq_zero_of_lt h hb
theorem topBits_split (b : Int) (n : Nat) : topBits b n = 2 * topBits b (n + 1) + topBits b n % 2 := by
  rw [topBits_half]; omega
theorem mul_topBits (a b : Int) (n : Nat) : a * topBits b n = a * topBits b (n + 1) * 2 + a * (topBits b n % 2) := by
  have h : a * topBits b n = a * (2 * topBits b (n + 1) + topBits b n % 2) := by rw [← topBits_split]
  rw [h, Int.mul_add, Int.mul_comm 2, Int.mul_assoc]

theorem or_mid_wrap (P : Int) (h0 : 0 ≤ P) :
    bits .or .u64 (IntKind.u64.wrap (P / 18446744073709551616 * 4294967296)) (P % 18446744073709551616 / 4294967296) = P / 4294967296 % 18446744073709551616 := by
  rw [wrap64u]
  have e : P / 18446744073709551616 * 4294967296 % 18446744073709551616 = P / 18446744073709551616 % 4294967296 * 4294967296 := by omega
  rw [e, or_parts _ _ (by omega) (by omega) (by omega) (by omega)]
  omega
theorem low_rest (P : Int) : IntKind.u64.wrap (P % 18446744073709551616 * 4294967296) / 4294967296 = P % 4294967296 := by
  rw [wrap64u]; omega

/-! A digit of a quotient: Y = yh * 2^32 + yl, N = U * 2^32 + c, q * yh + r = U. -/
section
variable {Y yh yl U c q r : Int}
theorem dig_key (hY : Y = yh * 4294967296 + yl) (hq : q * yh + r = U) : q * Y = U * 4294967296 - r * 4294967296 + q * yl := by
  rw [hY, Int.mul_add, ← Int.mul_assoc]; omega
theorem dig_lt (hY0 : 0 < Y) (hU : U < Y) (hc : c < 4294967296) : (U * 4294967296 + c) / Y < 4294967296 := by
  rw [Int.ediv_lt_iff_lt_mul hY0]; omega
theorem dig_big (hY0 : 0 < Y) (hU : U < Y) (hc : c < 4294967296) (h : 4294967296 ≤ q) : (U * 4294967296 + c) / Y ≤ q - 1 := by
  have := dig_lt hY0 hU hc; omega
theorem dig_gt (hY0 : 0 < Y) (hY : Y = yh * 4294967296 + yl) (hq : q * yh + r = U) (h : r * 4294967296 + c < q * yl) : (U * 4294967296 + c) / Y ≤ q - 1 := by
  have k := dig_key hY hq
  have : (U * 4294967296 + c) / Y < q := by rw [Int.ediv_lt_iff_lt_mul hY0]; omega
  omega
theorem dig_le (hY0 : 0 < Y) (hY : Y = yh * 4294967296 + yl) (hq : q * yh + r = U) (h : q * yl ≤ r * 4294967296 + c) : q ≤ (U * 4294967296 + c) / Y := by
  have k := dig_key hY hq
  rw [Int.le_ediv_iff_mul_le hY0]; omega
theorem dig_break (hY0 : 0 < Y) (hY : Y = yh * 4294967296 + yl) (hq : q * yh + r = U) (hl0 : 0 ≤ yl) (hl : yl < 4294967296) (hc : 0 ≤ c) (q0 : 0 ≤ q) (q1 : q < 4294967296) (h : 4294967296 ≤ r) : q ≤ (U * 4294967296 + c) / Y := by
  refine dig_le hY0 hY hq ?_
  have := (prod_le q0 hl0 (show q ≤ 4294967295 by omega) (show yl ≤ 4294967295 by omega)).2
  omega
theorem dig_nobreak (hY : Y = yh * 4294967296 + yl) (hU : U < Y) (hq : q * yh + r = U) (hl : yl < 4294967296) (hh : 0 ≤ yh) (h : 4294967296 ≤ q) : r < 4294967296 := by
  have := Int.mul_le_mul_of_nonneg_right h hh
  omega
theorem dig_start (hY0 : 0 < Y) (hY : Y = yh * 4294967296 + yl) (hh : 0 < yh) (hl0 : 0 ≤ yl) (hc : c < 4294967296) (hU0 : 0 ≤ U) : (U * 4294967296 + c) / Y ≤ U / yh := by
  rw [Int.le_ediv_iff_mul_le hh]
  have h1 : (U * 4294967296 + c) / Y * Y ≤ U * 4294967296 + c := Int.ediv_mul_le _ (by omega)
  generalize (U * 4294967296 + c) / Y = d at *
  by_cases hd : 0 ≤ d
  · have h2 := Int.mul_nonneg hd hl0
    rw [hY, Int.mul_add, ← Int.mul_assoc] at h1
    omega
  · have h2 := Int.mul_nonneg (show 0 ≤ -d by omega) (Int.le_of_lt hh)
    rw [Int.neg_mul] at h2
    omega
theorem dig_rest (hh : 0 < yh) : U / yh * yh + (U - U / yh * yh) = U ∧ 0 ≤ U - U / yh * yh ∧ U - U / yh * yh < yh ∧ U / yh * yh ≤ U := by
  have h1 := Int.emod_nonneg U (show yh ≠ 0 by omega)
  have h2 := Int.emod_lt_of_pos U hh
  have h3 := Int.ediv_mul_add_emod U yh
  omega
end

theorem pow_pos2 (n : Nat) : (0 : Int) < 2 ^ n := Int.pow_pos (by omega)

theorem or_pow (h c : Int) (s : Nat) (h0 : 0 ≤ h) (c0 : 0 ≤ c) (c1 : c < 2 ^ s) (hb : h * 2 ^ s + c < 18446744073709551616) : bits .or .u64 (h * 2 ^ s) c = h * 2 ^ s + c := by
  obtain ⟨n, rfl⟩ := Int.eq_ofNat_of_zero_le h0
  obtain ⟨m, rfl⟩ := Int.eq_ofNat_of_zero_le c0
  have hT : ((2 ^ s : Nat) : Int) = (2 : Int) ^ s := by simp
  have c1' : m < 2 ^ s := by rw [← hT] at c1; omega
  have hb' : n * 2 ^ s + m < 18446744073709551616 := by
    have e : ((n * 2 ^ s + m : Nat) : Int) = (n : Int) * 2 ^ s + (m : Int) := by rw [Int.natCast_add, Int.natCast_mul, hT]
    omega
  have g := Nat.shiftLeft_add_eq_or_of_lt c1' n
  rw [Nat.shiftLeft_eq] at g
  have e := bits_or_u64_nat (n * 2 ^ s) m (by omega) (by omega)
  rw [← g] at e
  rw [Int.natCast_add, Int.natCast_mul, hT] at e
  exact e

/-- Both words of the dividend, shifted until the divisor's first bit is set. -/
theorem norm_spec (hi lo y : Int) (s : Nat) (hs : s ≤ 63) (h0 : 0 ≤ hi) (hy : hi < y) (l0 : 0 ≤ lo) (l1 : lo < 18446744073709551616) (hY : y * 2 ^ s < 18446744073709551616) :
    0 ≤ hi * 2 ^ s ∧ hi * 2 ^ s + lo / 2 ^ (64 - s) < y * 2 ^ s ∧ 0 ≤ lo / 2 ^ (64 - s) ∧
    bits .or .u64 (hi * 2 ^ s) (lo / 2 ^ (64 - s)) = hi * 2 ^ s + lo / 2 ^ (64 - s) ∧
    (hi * 2 ^ s + lo / 2 ^ (64 - s)) * 18446744073709551616 + IntKind.u64.wrap (lo * 2 ^ s) = (hi * 18446744073709551616 + lo) * 2 ^ s := by
  have hp : (2 : Int) ^ (64 - s) * 2 ^ s = 18446744073709551616 := by
    rw [← Int.pow_add, show 64 - s + s = 64 from by omega]; rfl
  have t0 := pow_pos2 s
  have t1 := pow_pos2 (64 - s)
  have hor := or_pow hi (lo / 2 ^ (64 - s)) s h0
  generalize (2 : Int) ^ s = T at *
  generalize (2 : Int) ^ (64 - s) = V at *
  have a0 : 0 ≤ lo / V := Int.ediv_nonneg l0 (by omega)
  have a1 : lo / V < T := by rw [Int.ediv_lt_iff_lt_mul t1, Int.mul_comm, hp]; exact l1
  have m0 : 0 ≤ hi * T := Int.mul_nonneg h0 (by omega)
  have m1 : (hi + 1) * T ≤ y * T := Int.mul_le_mul_of_nonneg_right (by omega) (by omega)
  rw [Int.add_mul, Int.one_mul] at m1
  refine ⟨m0, by omega, a0, hor a0 a1 (by omega), ?_⟩
  have d := Int.ediv_mul_add_emod lo V
  have d0 := Int.emod_nonneg lo (show V ≠ 0 by omega)
  have d1 := Int.emod_lt_of_pos lo t1
  have e1 : lo * T = lo / V * 18446744073709551616 + lo % V * T := by
    rw [← hp, ← Int.mul_assoc, ← Int.add_mul, d]
  have e2 : lo % V * T < 18446744073709551616 := by
    rw [← hp]; exact Int.mul_lt_mul_of_pos_right d1 t0
  have e3 : 0 ≤ lo % V * T := Int.mul_nonneg d0 (by omega)
  rw [wrap64u, Int.add_mul, Int.add_mul (hi * 18446744073709551616), Int.mul_right_comm hi]
  omega

/-- Two digits make the quotient; the rest, shifted back, is the remainder. -/
theorem two_digits (M y T U W : Int) (t0 : 0 < T) (y0 : 0 < y) (hM : U * 18446744073709551616 + W = M * T) (w0 : 0 ≤ W) (w1 : W < 18446744073709551616) (a b : Int)
    (ha : a = (U * 4294967296 + W / 4294967296) % (y * T)) (hb : b = (a * 4294967296 + W % 4294967296) / (y * T)) :
    (U * 4294967296 + W / 4294967296) / (y * T) * 4294967296 + b = M / y ∧ (a * 4294967296 + W % 4294967296 - b * (y * T)) / T = M % y := by
  have hY : 0 < y * T := Int.mul_pos y0 t0
  have q1 : M * T / (y * T) = M / y := by rw [Int.mul_comm M, Int.mul_comm y]; exact Int.mul_ediv_mul_of_pos _ _ t0
  have q2 : M * T % (y * T) = T * (M % y) := by rw [Int.mul_comm M, Int.mul_comm y]; exact Int.mul_emod_mul_of_pos _ _ t0
  have d1 := Int.ediv_mul_add_emod (U * 4294967296 + W / 4294967296) (y * T)
  have d2 := Int.ediv_mul_add_emod (a * 4294967296 + W % 4294967296) (y * T)
  have r0 := Int.emod_nonneg (a * 4294967296 + W % 4294967296) (show y * T ≠ 0 by omega)
  have r1 := Int.emod_lt_of_pos (a * 4294967296 + W % 4294967296) hY
  rw [← hb] at d2
  rw [← ha] at d1
  generalize hr : (a * 4294967296 + W % 4294967296) % (y * T) = R at *
  generalize (U * 4294967296 + W / 4294967296) / (y * T) = c at *
  have key : R + y * T * (c * 4294967296 + b) = M * T := by
    rw [Int.mul_add, ← Int.mul_assoc, Int.mul_comm (y * T) c, Int.mul_comm (y * T) b]
    omega
  have u := (Int.ediv_emod_unique hY).2 ⟨key, r0, r1⟩
  rw [q1, q2] at u
  refine ⟨u.1.symm, ?_⟩
  have e : a * 4294967296 + W % 4294967296 - b * (y * T) = T * (M % y) := by rw [u.2]; omega
  rw [e]
  exact Int.mul_ediv_cancel_left _ (by omega)

/-- What a digit leaves, reckoned modulo 2^64. -/
theorem dig_next (U c Y D : Int) (hY0 : 0 < Y) (hY : Y < 18446744073709551616) (hD : (U * 4294967296 + c) / Y = D) :
    IntKind.u64.wrap (IntKind.u64.wrap (IntKind.u64.wrap (U * 4294967296) + c) - IntKind.u64.wrap (D * Y)) = (U * 4294967296 + c) % Y ∧
    (U * 4294967296 + c) % Y = U * 4294967296 + c - D * Y ∧ 0 ≤ (U * 4294967296 + c) % Y ∧ (U * 4294967296 + c) % Y < Y := by
  have h1 := Int.ediv_mul_add_emod (U * 4294967296 + c) Y
  have h2 := Int.emod_nonneg (U * 4294967296 + c) (show Y ≠ 0 by omega)
  have h3 := Int.emod_lt_of_pos (U * 4294967296 + c) hY0
  rw [hD] at h1
  refine ⟨?_, by omega, h2, h3⟩
  rw [wrap64u, wrap64u, wrap64u, wrap64u]
  omega

end Go.Proofs.Ytapelgjnnccfoaa

/-
  Contracts of package fix: each function's result, for every argument; the world stays as it is.
-/
namespace Go.Proofs.Ytapelgjnnccfoaa
open Go.RowKit
set_option linter.unusedVariables false
set_option linter.unusedSimpArgs false

theorem mag_wrap_neg (x : Int) (h1 : -9223372036854775808 ≤ x) (h2 : x < 0) : IntKind.u64.wrap (-IntKind.u64.wrap x) = mag x := by
  rw [wrap64u, wrap64u, mag_neg x h2]; omega
theorem mag_wrap_pos (x : Int) (h1 : 0 ≤ x) (h2 : x ≤ 9223372036854775807) : IntKind.u64.wrap x = mag x := by
  rw [wrap64u, mag_pos x h1]; omega

set_option maxHeartbeats 400000 in
theorem magnitude_any (x : Int) (w : World) (h1 : -9223372036854775808 ≤ x) (h2 : x ≤ 9223372036854775807) :
    Calls Try.prog 52 #[.int .i64 x] w fun e w' => e = .returned (.int .u64 (mag x)) ∧ w = w' := by
  have H := Lib.hid h2; clear h2
  by_cases hx : x < 0
  · go_enter Try.func52, Try.ntmps52
    go_wp2
    go_ret
    exact ⟨ret_int (mag_wrap_neg x h1 hx), rfl⟩
  · go_enter Try.func52, Try.ntmps52
    go_wp2
    go_ret
    exact ⟨ret_int (mag_wrap_pos x (by omega) H.out), rfl⟩

set_option maxHeartbeats 400000 in
theorem signed_any (neg : Bool) (m : Int) (w : World) (h0 : 0 ≤ m) :
    Calls Try.prog 50 #[.bool neg, .int .u64 m] w fun e w' => e = .returned (.int .i64 (sgn neg m)) ∧ w = w' := by
  cases neg
  all_goals
    go_enter Try.func50, Try.ntmps50
    go_wp2
    all_goals
      go_ret
      exact ⟨ret_int (by unfold sgn; first | (rw [if_pos (by assumption)]; rfl) | (rw [if_neg (by omega)]; rfl)), rfl⟩


theorem up_a {whole rest unit : Int} (h : unit - rest < rest) : up whole rest unit = true := by
  unfold up; simp only [Bool.or_eq_true, decide_eq_true_eq]; exact .inl (by omega)
theorem up_b {whole rest unit : Int} (h : rest = unit - rest) (ho : whole % 2 = 1) : up whole rest unit = true := by
  unfold up; simp only [Bool.or_eq_true, Bool.and_eq_true, decide_eq_true_eq]; exact .inr ⟨by omega, ho⟩
theorem up_c {whole rest unit : Int} (h : ¬ unit - rest < rest) (ho : ¬ whole % 2 = 1) : up whole rest unit = false := by
  unfold up; simp only [Bool.or_eq_false_iff, Bool.and_eq_false_iff, decide_eq_false_iff_not]; exact ⟨by omega, .inr ho⟩
theorem up_d {whole rest unit : Int} (h : ¬ unit - rest < rest) (hne : ¬ rest = unit - rest) : up whole rest unit = false := by
  unfold up; simp only [Bool.or_eq_false_iff, Bool.and_eq_false_iff, decide_eq_false_iff_not]; exact ⟨by omega, .inl (by omega)⟩
theorem rnd_up {whole rest unit : Int} (h : up whole rest unit = true) (hw : whole < 9223372036854775808) : whole + 1 = rnd whole rest unit := by
  unfold rnd; rw [if_pos ⟨h, hw⟩]
theorem rnd_cap {whole rest unit : Int} (hw : 9223372036854775808 ≤ whole) : whole = rnd whole rest unit := by
  unfold rnd; rw [if_neg (fun hh => by omega)]
theorem rnd_no {whole rest unit : Int} (h : up whole rest unit = false) : whole = rnd whole rest unit := by
  unfold rnd; rw [if_neg (fun hh => by rw [h] at hh; exact absurd hh.1 (by decide))]

set_option maxHeartbeats 400000 in
theorem rounded_any (whole rest unit : Int) (w : World) (h0 : 0 ≤ whole) (h1 : 0 ≤ rest) (h2 : rest ≤ unit) (h3 : unit < 18446744073709551616) (h4 : whole < 18446744073709551616) :
    Calls Try.prog 62 #[.int .u64 whole, .int .u64 rest, .int .u64 unit] w fun e w' => e = .returned (.int .u64 (rnd whole rest unit)) ∧ w = w' := by
  by_cases c1 : unit - rest < rest
  · go_enter Try.func62, Try.ntmps62
    go_wp2
    all_goals
      go_ret
      exact ⟨ret_int (by first | exact rnd_up (up_a c1) (by assumption) | exact rnd_cap (by assumption)), rfl⟩
  · by_cases c2 : rest = unit - rest
    · have C2 := Lib.hid c2
      have d2 : (rest == unit - rest) = true := beq_iff_eq.2 c2
      clear c2
      by_cases c3 : whole % 2 = 1
      · have d3 : (whole % 2 == 1) = true := beq_iff_eq.2 c3
        have C3 := Lib.hid c3; clear c3
        go_enter Try.func62, Try.ntmps62
        go_wp2
        all_goals
          go_ret
          exact ⟨ret_int (by first | exact rnd_up (up_b C2.out C3.out) (by assumption) | exact rnd_cap (by assumption)), rfl⟩
      · have d3 : (whole % 2 == 1) = false := beq_eq_false_iff_ne.2 c3
        have C3 := Lib.hid c3; clear c3
        go_enter Try.func62, Try.ntmps62
        go_wp2
        go_ret
        exact ⟨ret_int (rnd_no (up_c (by omega) C3.out)), rfl⟩
    · have d2 : (rest == unit - rest) = false := beq_eq_false_iff_ne.2 c2
      have C2 := Lib.hid c2; clear c2
      go_enter Try.func62, Try.ntmps62
      go_wp2
      go_ret
      exact ⟨ret_int (rnd_no (up_d (by omega) C2.out)), rfl⟩

theorem ret_two {k l : IntKind} {a b c d : Int} (h : a = b) (h' : c = d) : Ending.returned (.tuple #[.int k a, .int l c]) = .returned (.tuple #[.int k b, .int l d]) := by rw [h, h']

set_option maxHeartbeats 1000000 in
theorem mul64_any (x y : Int) (w : World) (hx0 : 0 ≤ x) (hx : x < 18446744073709551616) (hy0 : 0 ≤ y) (hy : y < 18446744073709551616) :
    Calls Try.prog 61 #[.int .u64 x, .int .u64 y] w fun e w' => e = .returned (.tuple #[.int .u64 (x * y / 18446744073709551616), .int .u64 (x * y % 18446744073709551616)]) ∧ w = w' := by
  have a0 := and32 x hx0 hx
  have b0 := and32 y hy0 hy
  have p11 := half_prod (a := x / 4294967296) (b := y / 4294967296) (by omega) (by omega) (by omega) (by omega)
  have p10 := half_prod (a := x / 4294967296) (b := y % 4294967296) (by omega) (by omega) (by omega) (by omega)
  have p01 := half_prod (a := x % 4294967296) (b := y / 4294967296) (by omega) (by omega) (by omega) (by omega)
  have p00 := half_prod (a := x % 4294967296) (b := y % 4294967296) (by omega) (by omega) (by omega) (by omega)
  have c0 := and32 (x / 4294967296 * (y % 4294967296) + x % 4294967296 * (y % 4294967296) / 4294967296) (by omega) (by omega)
  obtain ⟨q1, q2⟩ := p11; obtain ⟨q3, q4⟩ := p10; obtain ⟨q5, q6⟩ := p01; obtain ⟨q7, q8⟩ := p00
  go_enter Try.func61, Try.ntmps61
  go_wp2
  go_ret2
  refine ⟨ret_two ?_ ?_, rfl⟩
  · rw [← mul_hi x y]
  · exact wrap64u _

set_option maxHeartbeats 1000000 in
theorem product_any (a b : Int) (w : World) (ha0 : 0 ≤ a) (ha : a ≤ 9223372036854775808) (hb0 : 0 ≤ b) (hb : b ≤ 9223372036854775808) :
    Calls Try.prog 51 #[.int .u64 a, .int .u64 b] w fun e w' => e = .returned (.int .u64 (prodF a b)) ∧ w = w' := by
  obtain ⟨p0, p1⟩ := prod_le ha0 hb0 ha hb
  have C := mul64_any a b w ha0 (by omega) hb0 (by omega)
  by_cases c : a * b < 79228162514264337593543950336
  · have d := or_mid (a * b) p0 c
    have D : Hid (prodF a b = rnd (a * b / 4294967296) (a * b % 4294967296) 4294967296) := by unfold prodF; exact if_pos c
    have R := rounded_any (a * b / 4294967296) (a * b % 4294967296) 4294967296 w (by omega) (by omega) (by omega) (by omega) (by omega)
    have em : a * b % 18446744073709551616 % 4294967296 = a * b % 4294967296 := by omega
    have nz : (a * b / 18446744073709551616 / 4294967296 != 0) = false := by rw [bne_eq_false_iff_eq]; omega
    have C' := Lib.hid C; clear C
    have R' := Lib.hid R; clear R
    go_enter Try.func51, Try.ntmps51
    go_wp2_with fail
    refine C'.out.mono ?_
    rintro e w' ⟨rfl, rfl⟩
    go_wp2_with fail
    refine R'.out.mono ?_
    rintro e w' ⟨rfl, rfl⟩
    go_wp2_with fail
    go_ret
    exact ⟨ret_int D.out.symm, rfl⟩
  · have D : Hid (prodF a b = 9223372036854775808) := by unfold prodF; exact if_neg c
    have nz : (a * b / 18446744073709551616 / 4294967296 != 0) = true := by rw [bne_iff_ne]; omega
    have C' := Lib.hid C; clear C
    go_enter Try.func51, Try.ntmps51
    go_wp2_with fail
    refine C'.out.mono ?_
    rintro e w' ⟨rfl, rfl⟩
    go_wp2_with fail
    go_ret
    exact ⟨ret_int D.out.symm, rfl⟩

set_option maxHeartbeats 1000000 in
theorem mul_any (x y : Int) (w : World) (hx1 : -9223372036854775808 ≤ x) (hx2 : x ≤ 9223372036854775807) (hy1 : -9223372036854775808 ≤ y) (hy2 : y ≤ 9223372036854775807) :
    Calls Try.prog 36 #[.int .i64 x, .int .i64 y] w fun e w' => e = .returned (.int .i64 (mulF x y)) ∧ w = w' := by
  have mx := mag_bounds x hx1 hx2
  have my := mag_bounds y hy1 hy2
  have C1 := Lib.hid (magnitude_any x w hx1 hx2)
  have C2 := Lib.hid (magnitude_any y w hy1 hy2)
  have C3 := Lib.hid (product_any (mag x) (mag y) w mx.1 mx.2 my.1 my.2)
  have hb := prodF_bounds (mag x) (mag y) (Int.mul_nonneg mx.1 my.1)
  have C4 := Lib.hid (signed_any (decide (x < 0) != decide (y < 0)) (prodF (mag x) (mag y)) w hb.1)
  have D : Hid (sgn (decide (x < 0) != decide (y < 0)) (prodF (mag x) (mag y)) = mulF x y) := sgn_prodF _ _ _
  clear mx my hb hx1 hx2 hy1 hy2
  go_enter Try.func36, Try.ntmps36
  go_wp2_with fail
  refine C1.out.mono ?_
  rintro e w' ⟨rfl, rfl⟩
  go_wp2_with fail
  refine C2.out.mono ?_
  rintro e w' ⟨rfl, rfl⟩
  go_wp2_with fail
  refine C3.out.mono ?_
  rintro e w' ⟨rfl, rfl⟩
  go_wp2_with fail
  refine C4.out.mono ?_
  rintro e w' ⟨rfl, rfl⟩
  go_wp2_with fail
  go_ret
  exact ⟨ret_int D.out, rfl⟩

set_option maxHeartbeats 1000000 in
theorem add_any (x y : Int) (w : World) (hx1 : -9223372036854775808 ≤ x) (hx2 : x ≤ 9223372036854775807) (hy1 : -9223372036854775808 ≤ y) (hy2 : y ≤ 9223372036854775807) :
    Calls Try.prog 35 #[.int .i64 x, .int .i64 y] w fun e w' => e = .returned (.int .i64 (sat (x + y))) ∧ w = w' := by
  go_enter Try.func35, Try.ntmps35
  go_wp2
  all_goals
    go_ret
    exact ⟨ret_int (by unfold sat; split <;> (try split) <;> omega), rfl⟩

set_option maxHeartbeats 1000000 in
theorem int_any (x : Int) (w : World) (hx1 : -9223372036854775808 ≤ x) (hx2 : x ≤ 9223372036854775807) :
    Calls Try.prog 45 #[.int .i64 x] w fun e w' => e = .returned (.int .i64 (sat (x * 4294967296))) ∧ w = w' := by
  go_enter Try.func45, Try.ntmps45
  go_wp2
  all_goals
    go_ret
    exact ⟨ret_int (by unfold sat; split <;> (try split) <;> omega), rfl⟩

end Go.Proofs.Ytapelgjnnccfoaa
