import Derived.Test.YtapelgjnnccfoaaJ04
import Derived.Test.YtapelgjnnccfoaaJ10
import Derived.Deep.DeepCutAuto
import Derived.Deep.CutBlock
/-
  The fixed answer of the statements of layer 7: the program gives it.
-/
namespace Go.Proofs.Ytapelgjnnccfoaa
open Go.RowKit
set_option linter.unusedVariables false
set_option linter.unusedSimpArgs false

set_option maxRecDepth 100000 in
set_option maxHeartbeats 8000000 in
theorem awake07_any (w : World) :
    Calls Try.prog 9 #[] w fun e w' => e = .returned (.bool true) ∧ Below w.heap.size w w' := by
  have v1 : Hid (rightT [1, 1, 2] 2 = true ∧ rightT [1, 3] 3 = true ∧ toldE [1, 1, 2] [1, 3] 1 = 0) := by show _ ∧ _ ∧ _; decide +kernel
  have v2 : Hid (outS [1, 1, 2] [1, 3] 1 = [1, 2]) := by show _ = _; decide +kernel
  have v3 : Hid (prodI [1, 2] = 2) := by show _ = _; decide +kernel
  have v4 : Hid (runP 2 (goV (wholeF [1, 2]) (wholeF [1, 1, 3])) (touchL [1, 1, 2] [1, 3] 1) = wholeF [3, 7]) := by show _ = _; decide +kernel
  have v5 : Hid (runP 2 (backV1 (wholeF [3, 7]) (wholeF [1, 1, 3])) (touchL [1, 1, 2] [1, 3] 1) = wholeF [10, 24]) := by show _ = _; decide +kernel
  have v6 : Hid (runP 3 (backV2 (wholeF [3, 7]) (wholeF [1, 2])) (touchL [1, 1, 2] [1, 3] 1) = wholeF [3, 13, 14]) := by show _ = _; decide +kernel
  have v7 : Hid (rightT [1, 2] 2 = true) := by show _ = _; decide +kernel
  have v8 : Hid (toldE [1, 1, 2] [1, 3] 0 = 11) := by show _ = _; decide +kernel
  have f112 : Hid (Fits [1, 1, 2]) := Lib.hid (fits_few (by decide +kernel))
  have f12 : Hid (Fits [1, 2]) := Lib.hid (fits_few (by decide +kernel))
  have f13 : Hid (Fits [1, 3]) := Lib.hid (fits_few (by decide +kernel))
  have f113 : Hid (Fits [1, 1, 3]) := Lib.hid (fits_few (by decide +kernel))
  have f37 : Hid (Fits [3, 7]) := Lib.hid (fits_few (by decide +kernel))
  have f1024 : Hid (Fits [10, 24]) := Lib.hid (fits_few (by decide +kernel))
  have f31314 : Hid (Fits [3, 13, 14]) := Lib.hid (fits_few (by decide +kernel))
  obtain ⟨w0, hw0, s0, c0, z0⟩ := rows_made5 w 3 3 [1, 1, 2] [1, 2] 3 2 rfl rfl (by omega) (by omega) f112.out f12.out
  go_enter Try.func9, Try.ntmps9
  go_wp2_with fail
  have hw0' := hw0.out
  simp only [List.map_cons, List.map_nil] at hw0'
  rw [hw0']
  clear hw0'
  refine (lawof_any _ 3 3 _ 2 2 [1, 2] w0 c0.out (by omega)).mono ?_
  rintro e w1 ⟨A1, k1, rfl, o1, hb1⟩
  obtain ⟨g1, k1', hv⟩ := Joins.ownsRow_form o1 (by omega)
  simp only [Value.slice.injEq] at hv
  obtain ⟨rfl, -, rfl⟩ := hv
  have TW := Lib.hid (show TV.At ⟨some ⟨w.heap.size, 0, none⟩, 3, 3, [1, 1, 2], some ⟨g1, 0, none⟩, 2, k1, wholeF [1, 2]⟩ w1 from ⟨s0.out.kept hb1, row_ints o1 (show 2 ≤ 9223372036854775807 by omega) (wholeF_fits _), by simp, by simp⟩)
  have y1 := Lib.hid (z0.out.trans (hb1.mono z0.out.size))
  clear o1 hb1 s0 c0 z0 hw0
  obtain ⟨w2, hw2, s2, c2, z2⟩ := rows_made5 w1 3 3 [1, 3] [1, 1, 3] 2 3 rfl rfl (by omega) (by omega) f13.out f113.out
  have hw2' := hw2.out
  simp only [List.map_cons, List.map_nil] at hw2'
  go_wp2_with fail
  clear hw2'
  refine (lawof_any _ 2 2 _ 3 3 [1, 1, 3] w2 c2.out (by omega)).mono ?_
  rintro e w3 ⟨A3, k3, rfl, o1, hb1⟩
  have Tx := Lib.hid (show TV.At ⟨some ⟨w1.heap.size, 0, none⟩, 2, 2, [1, 3], A3, 3, k3, wholeF [1, 1, 3]⟩ w3 from ⟨s2.out.kept hb1, row_ints o1 (show 3 ≤ 9223372036854775807 by omega) (wholeF_fits _), by simp, by simp⟩)
  have y3 := Lib.hid (z2.out.trans (hb1.mono z2.out.size))
  clear o1 hb1 s2 c2 z2 hw2
  go_upto_region 2 with (fail)
  obtain ⟨u1, hu1, J1, x1, m1⟩ := grid_box w3 (.slice (some ⟨w.heap.size, 0, none⟩) 3 3) (.slice (some ⟨g1, 0, none⟩) 2 k1)
  obtain ⟨u2, hu2, J2, x2, m2⟩ := grid_box u1 (.slice (some ⟨w1.heap.size, 0, none⟩) 2 2) (.slice A3 3 k3)
  rw [hu1.out, hu2.out]
  rw [m1.out] at J2
  have x12 := Lib.hid (x1.out.trans (x2.out.mono x1.out.size))
  have TW3 := Lib.hid (TW.out.kept (y3.out.trans (x12.out.mono y3.out.size)))
  have Tx3 := Lib.hid (Tx.out.kept x12.out)
  have y15 := y1.out.trans (y3.out.mono y1.out.size)
  have yA := Lib.hid (y15.trans (x12.out.mono y15.size))
  have K1 := Lib.hid (J1.out.kept x2.out)
  have K2 := J2
  clear y15 TW Tx x1 x2 x12 y1 y3 J1 J2 hu1 hu2 m1 m2
  obtain ⟨a0, a1, -, -⟩ := K1.out.see
  obtain ⟨c0, c1, -, -⟩ := K2.out.see
  go_wp2_with fail
  clear a0 a1 c0 c1
  have hE := (tensE_yes (W := ⟨some ⟨w.heap.size, 0, none⟩, 3, 3, [1, 1, 2], some ⟨g1, 0, none⟩, 2, k1, wholeF [1, 2]⟩) (x := ⟨some ⟨w1.heap.size, 0, none⟩, 2, 2, [1, 3], A3, 3, k3, wholeF [1, 1, 3]⟩) (s := 1) v1.out.1 v1.out.2.1).trans v1.out.2.2
  refine (convgo_ok ⟨some ⟨w.heap.size, 0, none⟩, 3, 3, [1, 1, 2], some ⟨g1, 0, none⟩, 2, k1, wholeF [1, 2]⟩ ⟨some ⟨w1.heap.size, 0, none⟩, 2, 2, [1, 3], A3, 3, k3, wholeF [1, 1, 3]⟩ 1 u2 TW3.out Tx3.out ⟨Nat.le_refl _, by show 3 ≤ 9223372036854775807; omega⟩ ⟨Nat.le_refl _, by show 2 ≤ 9223372036854775807; omega⟩ (by omega) (by omega) hE 2 (by show prodI (outS [1, 1, 2] [1, 3] 1) = _; rw [v2.out]; exact v3.out)).mono ?_
  rintro e w6 ⟨v', rfl, C1, d1, C2, d2, rfl, o1, o2, -, hb6⟩
  have o1' : w6.ownsRow u2.heap.size 3 1 (.slice C1 2 d1) 2 ([1, 2].map (Value.int .i64)) := by rw [← v2.out]; exact o1
  have o2' : w6.ownsRow u2.heap.size 56 1 (.slice C2 2 d2) 2 ((wholeF [3, 7]).map (Value.int .i64)) := by rw [← v4.out]; exact o2
  have TY := Lib.hid (show TV.At ⟨C1, 2, d1, [1, 2], C2, 2, d2, wholeF [3, 7]⟩ w6 from ⟨row_ints o1' (show 2 ≤ 9223372036854775807 by omega) f12.out, row_ints o2' (show 2 ≤ 9223372036854775807 by omega) (wholeF_fits _), by simp, by simp⟩)
  clear o1 o2 o1' o2'
  obtain ⟨w7, hw7, JY, z7, n7⟩ := grid_box w6 (.slice C1 2 d1) (.slice C2 2 d2)
  have q7 := Lib.hid (hb6.trans (z7.out.mono hb6.size))
  have yB := Lib.hid (yA.out.trans (q7.out.mono yA.out.size))
  have TW7 := Lib.hid (TW3.out.kept q7.out)
  have Tx7 := Lib.hid (Tx3.out.kept q7.out)
  have TY7 := Lib.hid (TY.out.kept z7.out)
  have K1b := Lib.hid (K1.out.kept q7.out)
  have K2b := Lib.hid (K2.out.kept q7.out)
  clear hb6 q7 z7 yA TW3 Tx3 TY K1 K2
  simp only [List.length_cons, List.length_nil, Nat.reduceAdd]
  go_upto_region 3 with (fail)
  rw [hw7.out]
  obtain ⟨a0, a1, -, -⟩ := K1b.out.see
  obtain ⟨c0, c1, -, -⟩ := K2b.out.see
  obtain ⟨e0, e1, -, -⟩ := JY.out.see
  go_wp2_with fail
  clear a0 a1 c0 c1 e0 e1
  refine (convback_ok ⟨some ⟨w.heap.size, 0, none⟩, 3, 3, [1, 1, 2], some ⟨g1, 0, none⟩, 2, k1, wholeF [1, 2]⟩ ⟨some ⟨w1.heap.size, 0, none⟩, 2, 2, [1, 3], A3, 3, k3, wholeF [1, 1, 3]⟩ ⟨C1, 2, d1, [1, 2], C2, 2, d2, wholeF [3, 7]⟩ 1 w7 TW7.out Tx7.out TY7.out ⟨Nat.le_refl _, by show 3 ≤ 9223372036854775807; omega⟩ ⟨Nat.le_refl _, by show 2 ≤ 9223372036854775807; omega⟩ (by omega) (by omega) hE (by show (rightT [1, 2] 2 && sameL [1, 2] (outS [1, 1, 2] [1, 3] 1)) = true; rw [v2.out, v7.out]; decide)).mono ?_
  rintro e w8 ⟨G1, h1, G2, h2, G3, h3, G4, h4, rfl, i1, i2, i3, i4, hb8⟩
  have i2' : IntsAt w8 G2 2 (wholeF [10, 24]) := by rw [← v5.out]; exact i2
  have i4' : IntsAt w8 G4 3 (wholeF [3, 13, 14]) := by rw [← v6.out]; exact i4
  have i1' : IntsAt w8 G1 3 [1, 1, 2] := i1
  have i3' : IntsAt w8 G3 2 [1, 3] := i3
  obtain ⟨w9, hw9, JG, z9, n9⟩ := gd_box w8 (.slice G1 3 h1) (.slice G2 2 h2) (.slice G3 2 h3) (.slice G4 3 h4)
  have q9 := Lib.hid (hb8.trans (z9.out.mono hb8.size))
  have yC := Lib.hid (yB.out.trans (q9.out.mono yB.out.size))
  have TW9 := Lib.hid (TW7.out.kept q9.out)
  have Tx9 := Lib.hid (Tx7.out.kept q9.out)
  have TY9 := Lib.hid (TY7.out.kept q9.out)
  have TG := Lib.hid (And.intro (i1'.kept z9.out) (And.intro (i2'.kept z9.out) (And.intro (i3'.kept z9.out) (i4'.kept z9.out))))
  have K1c := Lib.hid (K1b.out.kept q9.out)
  have K2c := Lib.hid (K2b.out.kept q9.out)
  have KYc := Lib.hid (JY.out.kept q9.out)
  clear hb8 q9 z9 yB TW7 Tx7 TY7 K1b K2b JY i1 i2 i3 i4 i1' i2' i3' i4' hE
  simp only [List.length_cons, List.length_nil, Nat.reduceAdd]
  go_upto_region 4 with (fail)
  rw [hw9.out]
  obtain ⟨a0, a1, -, -⟩ := K1c.out.see
  obtain ⟨c0, c1, -, -⟩ := K2c.out.see
  go_wp2_with fail
  clear a0 a1 c0 c1
  refine (convshape_any ⟨some ⟨w.heap.size, 0, none⟩, 3, 3, [1, 1, 2], some ⟨g1, 0, none⟩, 2, k1, wholeF [1, 2]⟩ ⟨some ⟨w1.heap.size, 0, none⟩, 2, 2, [1, 3], A3, 3, k3, wholeF [1, 1, 3]⟩ 0 w9 TW9.out Tx9.out ⟨Nat.le_refl _, by show 3 ≤ 9223372036854775807; omega⟩ ⟨Nat.le_refl _, by show 2 ≤ 9223372036854775807; omega⟩ (by omega) (by omega)).mono ?_
  rintro e wv ⟨-, hN⟩
  have hN2 := hN (by show toldE [1, 1, 2] [1, 3] 0 ≠ 0; rw [v8.out]; decide)
  have hN3 : NilE w9 11 e wv := by rw [← v8.out]; exact hN2
  obtain ⟨rfl, hbz⟩ := hN3
  have qv := Lib.hid hbz
  have yD := Lib.hid (yC.out.trans (qv.out.mono yC.out.size))
  have TYv := Lib.hid (TY9.out.kept qv.out)
  have TG1 := Lib.hid (TG.out.1.kept qv.out)
  have TG2 := Lib.hid (TG.out.2.1.kept qv.out)
  have TG3 := Lib.hid (TG.out.2.2.1.kept qv.out)
  have TG4 := Lib.hid (TG.out.2.2.2.kept qv.out)
  have KY := Lib.hid (KYc.out.kept qv.out)
  have KG := Lib.hid (JG.out.kept qv.out)
  clear hbz hN hN2 qv yC TW9 Tx9 TY9 TG K1c K2c KYc JG
  go_upto_region 5 with (fail)
  have SK := Lib.hid (fun w' (hb : Below wv.heap.size wv w') => (show w'.cell? ⟨w6.heap.size, 0, none⟩ = some (.slice C1 2 d1) ∧ w'.cell? ⟨w6.heap.size, 1, none⟩ = some (.slice C2 2 d2) ∧ w'.cell? ⟨w8.heap.size, 0, none⟩ = some (.slice G1 3 h1) ∧ w'.cell? ⟨w8.heap.size, 1, none⟩ = some (.slice G2 2 h2) ∧ w'.cell? ⟨w8.heap.size, 2, none⟩ = some (.slice G3 2 h3) ∧ w'.cell? ⟨w8.heap.size, 3, none⟩ = some (.slice G4 3 h4) from ⟨(KY.out.kept hb).see.1, (KY.out.kept hb).see.2.1, (KG.out.kept hb).see.1, (KG.out.kept hb).see.2.1, (KG.out.kept hb).see.2.2.1, (KG.out.kept hb).see.2.2.2⟩))
  have t1 : Below wv.heap.size wv wv.drew := (Below.refl _ _).drew
  have SK1 := SK.out _ t1
  refine wp_region_held_drew (S := fun w' => w'.cell? ⟨w6.heap.size, 0, none⟩ = some (.slice C1 2 d1) ∧ w'.cell? ⟨w6.heap.size, 1, none⟩ = some (.slice C2 2 d2) ∧ w'.cell? ⟨w8.heap.size, 0, none⟩ = some (.slice G1 3 h1) ∧ w'.cell? ⟨w8.heap.size, 1, none⟩ = some (.slice G2 2 h2) ∧ w'.cell? ⟨w8.heap.size, 2, none⟩ = some (.slice G3 2 h3) ∧ w'.cell? ⟨w8.heap.size, 3, none⟩ = some (.slice G4 3 h4)) (by kernel_rfl) SK1 (fun hHeld => ?_)
  clear SK1 hHeld
  obtain ⟨wd, hwd⟩ : ∃ v, wv.drew = v := ⟨_, rfl⟩
  rw [hwd] at t1 ⊢
  have bwd := Lib.hid t1
  have hHeld := SK.out _ t1
  clear t1 hwd
  refine held_take 0 (.int .i64 0) rfl (by kernel_rfl) (by kernel_rfl) (by kernel_rfl) (fun _ _ _ h => h) (by rfl) (by intro w' hS; go_simp) (by assumption) ?_
  try simp only [Act.put, List.setIfInBounds_toArray, List.set_cons_zero, List.set_cons_succ]
  refine held_take 1 (.bool true) rfl (by kernel_rfl) (by kernel_rfl) (by kernel_rfl) (fun _ _ _ h => h) (by rfl) (by intro w' hS; go_simp) (by assumption) ?_
  try simp only [Act.put, List.setIfInBounds_toArray, List.set_cons_zero, List.set_cons_succ]
  refine held_take 2 (.bool true) rfl (by kernel_rfl) (by kernel_rfl) (by kernel_rfl) (fun _ _ _ h => h) (by rfl) (by intro w' hS; go_simp) (by assumption) ?_
  try simp only [Act.put, List.setIfInBounds_toArray, List.set_cons_zero, List.set_cons_succ]
  refine held_take 3 (.int .i64 0) rfl (by kernel_rfl) (by kernel_rfl) (by kernel_rfl) (fun _ _ _ h => h) (by rfl) (by intro w' hS; go_simp) (by assumption) ?_
  try simp only [Act.put, List.setIfInBounds_toArray, List.set_cons_zero, List.set_cons_succ]
  refine held_take 4 (.bool true) rfl (by kernel_rfl) (by kernel_rfl) (by kernel_rfl) (fun _ _ _ h => h) (by rfl) (by intro w' hS; go_simp) (by assumption) ?_
  try simp only [Act.put, List.setIfInBounds_toArray, List.set_cons_zero, List.set_cons_succ]
  refine held_take 5 (.bool true) rfl (by kernel_rfl) (by kernel_rfl) (by kernel_rfl) (fun _ _ _ h => h) (by rfl) (by intro w' hS; go_simp) (by assumption) ?_
  try simp only [Act.put, List.setIfInBounds_toArray, List.set_cons_zero, List.set_cons_succ]
  refine held_take 6 (.bool true) rfl (by kernel_rfl) (by kernel_rfl) (by kernel_rfl) (fun _ _ _ h => h) (by rfl) (by intro w' hS; go_simp) (by assumption) ?_
  try simp only [Act.put, List.setIfInBounds_toArray, List.set_cons_zero, List.set_cons_succ]
  refine held_take 7 (.int .i64 11) rfl (by kernel_rfl) (by kernel_rfl) (by kernel_rfl) (fun _ _ _ h => h) (by rfl) (by intro w' hS; go_simp) (by assumption) ?_
  try simp only [Act.put, List.setIfInBounds_toArray, List.set_cons_zero, List.set_cons_succ]
  refine held_take 8 (.bool true) rfl (by kernel_rfl) (by kernel_rfl) (by kernel_rfl) (fun _ _ _ h => h) (by rfl) (by intro w' hS; go_simp) (by assumption) ?_
  try simp only [Act.put, List.setIfInBounds_toArray, List.set_cons_zero, List.set_cons_succ]
  refine held_take 9 (.bool true) rfl (by kernel_rfl) (by kernel_rfl) (by kernel_rfl) (fun _ _ _ h => h) (by rfl) (by intro w' hS; go_simp) (by assumption) ?_
  try simp only [Act.put, List.setIfInBounds_toArray, List.set_cons_zero, List.set_cons_succ]
  refine held_take 10 (.bool true) rfl (by kernel_rfl) (by kernel_rfl) (by kernel_rfl) (fun _ _ _ h => h) (by rfl) (by intro w' hS; go_simp) (by assumption) ?_
  try simp only [Act.put, List.setIfInBounds_toArray, List.set_cons_zero, List.set_cons_succ]
  refine held_take 11 (.agg #[.slice C1 2 d1, .slice C2 2 d2]) rfl (by kernel_rfl) (by kernel_rfl) (by kernel_rfl) (fun _ _ _ h => h) (by rfl) (by intro w' hS; go_simp) (by assumption) ?_
  try simp only [Act.put, List.setIfInBounds_toArray, List.set_cons_zero, List.set_cons_succ]
  refine held_two 12 13 (by kernel_rfl) rfl rfl (by rfl) (by rfl) (fun K hK => ?_) (fun K hK => ?_)
  · go_simp
    have ip1 := Lib.hid (IntsAt.made wd 3 [1, 2] 2 rfl (by omega) (f12.out))
    have hb : Below wd.heap.size wd (wd.alloc (.cells ([1, 2].map (Value.int .i64)).toArray 3)) := (Below.refl _ _).alloc (Nat.le_refl _) _
    simp only [List.map_cons, List.map_nil] at ip1 hb
    obtain ⟨p1, hnew⟩ : ∃ wn, wd.alloc (.cells [Value.int .i64 1, Value.int .i64 2].toArray 3) = wn := ⟨_, rfl⟩
    rw [hnew] at ip1 hb ⊢
    clear hnew
    have bp1 := Lib.hid (bwd.out.trans (hb.mono bwd.out.size))
    have kp1 := Lib.hid hb
    clear hb
    refine hK.out _ _ (SK.out _ bp1.out) (fun hHeld => ?_)
    try simp only [Act.put, List.setIfInBounds_toArray, List.set_cons_zero, List.set_cons_succ]
    refine held_call 13 (by kernel_rfl) rfl (by rfl) (fun K hK => ?_)
    go_simp
    have ip2 := Lib.hid (IntsAt.made p1 3 [3, 7] 2 rfl (by omega) (f37.out))
    have hb : Below p1.heap.size p1 (p1.alloc (.cells ([3, 7].map (Value.int .i64)).toArray 3)) := (Below.refl _ _).alloc (Nat.le_refl _) _
    simp only [List.map_cons, List.map_nil] at ip2 hb
    obtain ⟨p2, hnew⟩ : ∃ wn, p1.alloc (.cells [Value.int .i64 3, Value.int .i64 7].toArray 3) = wn := ⟨_, rfl⟩
    rw [hnew] at ip2 hb ⊢
    clear hnew
    have bp2 := Lib.hid (bp1.out.trans (hb.mono bp1.out.size))
    have kp2 := Lib.hid hb
    clear hb
    refine hK.out _ _ (SK.out _ bp2.out) (fun hHeld => ?_)
    try simp only [Act.put, List.setIfInBounds_toArray, List.set_cons_zero, List.set_cons_succ]
    have isp2 := Lib.hid (ip1.out.kept kp2.out)
    refine held_call 14 (by kernel_rfl) rfl (by rfl) (fun K hK => ?_)
    go_simp
    refine (lawof_any (some ⟨wd.heap.size, 0, none⟩) 2 2 (some ⟨p1.heap.size, 0, none⟩) 2 2 [3, 7] p2 ip2.out (by omega)).mono ?_
    rintro e p3 ⟨E1, f1, rfl, op3, hb⟩
    have bp3 := Lib.hid (bp2.out.trans (hb.mono bp2.out.size))
    have cp3 := Lib.hid (row_ints op3 (show 2 ≤ 9223372036854775807 by omega) (wholeF_fits _))
    have sp3 := Lib.hid (isp2.out.kept hb)
    clear hb op3
    go_wp2_with fail
    refine hK.out _ _ (SK.out _ bp3.out) (fun hHeld => ?_)
    try simp only [Act.put, List.setIfInBounds_toArray, List.set_cons_zero, List.set_cons_succ]
    refine held_call 15 (by kernel_rfl) rfl (by rfl) (fun K hK => ?_)
    go_simp
    have hEQ := tequal_any C1 2 d1 [1, 2] C2 2 d2 (wholeF [3, 7]) (some ⟨wd.heap.size, 0, none⟩) 2 2 [1, 2] E1 2 f1 (wholeF [3, 7]) p3 (TYv.out.kept bp3.out).1 (TYv.out.kept bp3.out).2.1 sp3.out cp3.out
    rw [show sameT [1, 2] (wholeF [3, 7]) [1, 2] (wholeF [3, 7]) = true by simp [sameT, sameL]] at hEQ
    refine hEQ.mono ?_
    rintro e p4 ⟨rfl, hb⟩
    have bp4 := Lib.hid (bp3.out.trans (hb.mono bp3.out.size))
    clear hb hEQ
    go_wp2_with fail
    refine hK.out _ _ (SK.out _ bp4.out) (fun hHeld => ?_)
    try simp only [Act.put, List.setIfInBounds_toArray, List.set_cons_zero, List.set_cons_succ]
    refine held_take 16 (.bool true) rfl (by kernel_rfl) (by kernel_rfl) (by kernel_rfl) (fun _ _ _ h => h) (by rfl) (by intro w' hS; go_simp) (by assumption) ?_
    try simp only [Act.put, List.setIfInBounds_toArray, List.set_cons_zero, List.set_cons_succ]
    refine held_take 17 (.bool true) rfl (by kernel_rfl) (by kernel_rfl) (by kernel_rfl) (fun _ _ _ h => h) (by rfl) (by intro w' hS; go_simp) (by assumption) ?_
    try simp only [Act.put, List.setIfInBounds_toArray, List.set_cons_zero, List.set_cons_succ]
    refine held_take 18 (.pointer (some ⟨w8.heap.size, 0, none⟩)) rfl (by kernel_rfl) (by kernel_rfl) (by kernel_rfl) (fun _ _ _ h => h) (by rfl) (by intro w' hS; go_simp) (by assumption) ?_
    try simp only [Act.put, List.setIfInBounds_toArray, List.set_cons_zero, List.set_cons_succ]
    refine held_take 19 (.agg #[.slice G1 3 h1, .slice G2 2 h2]) rfl (by kernel_rfl) (by kernel_rfl) (by kernel_rfl) (fun _ _ _ h => h) (by rfl) (by intro w' hS; go_simp) (by assumption) ?_
    try simp only [Act.put, List.setIfInBounds_toArray, List.set_cons_zero, List.set_cons_succ]
    refine held_two 20 21 (by kernel_rfl) rfl rfl (by rfl) (by rfl) (fun K hK => ?_) (fun K hK => ?_)
    · go_simp
      have ip5 := Lib.hid (IntsAt.made p4 3 [1, 1, 2] 3 rfl (by omega) (f112.out))
      have hb : Below p4.heap.size p4 (p4.alloc (.cells ([1, 1, 2].map (Value.int .i64)).toArray 3)) := (Below.refl _ _).alloc (Nat.le_refl _) _
      simp only [List.map_cons, List.map_nil] at ip5 hb
      obtain ⟨p5, hnew⟩ : ∃ wn, p4.alloc (.cells [Value.int .i64 1, Value.int .i64 1, Value.int .i64 2].toArray 3) = wn := ⟨_, rfl⟩
      rw [hnew] at ip5 hb ⊢
      clear hnew
      have bp5 := Lib.hid (bp4.out.trans (hb.mono bp4.out.size))
      have kp5 := Lib.hid hb
      clear hb
      refine hK.out _ _ (SK.out _ bp5.out) (fun hHeld => ?_)
      try simp only [Act.put, List.setIfInBounds_toArray, List.set_cons_zero, List.set_cons_succ]
      refine held_call 21 (by kernel_rfl) rfl (by rfl) (fun K hK => ?_)
      go_simp
      have ip6 := Lib.hid (IntsAt.made p5 3 [10, 24] 2 rfl (by omega) (f1024.out))
      have hb : Below p5.heap.size p5 (p5.alloc (.cells ([10, 24].map (Value.int .i64)).toArray 3)) := (Below.refl _ _).alloc (Nat.le_refl _) _
      simp only [List.map_cons, List.map_nil] at ip6 hb
      obtain ⟨p6, hnew⟩ : ∃ wn, p5.alloc (.cells [Value.int .i64 10, Value.int .i64 24].toArray 3) = wn := ⟨_, rfl⟩
      rw [hnew] at ip6 hb ⊢
      clear hnew
      have bp6 := Lib.hid (bp5.out.trans (hb.mono bp5.out.size))
      have kp6 := Lib.hid hb
      clear hb
      refine hK.out _ _ (SK.out _ bp6.out) (fun hHeld => ?_)
      try simp only [Act.put, List.setIfInBounds_toArray, List.set_cons_zero, List.set_cons_succ]
      have isp6 := Lib.hid (ip5.out.kept kp6.out)
      refine held_call 22 (by kernel_rfl) rfl (by rfl) (fun K hK => ?_)
      go_simp
      refine (lawof_any (some ⟨p4.heap.size, 0, none⟩) 3 3 (some ⟨p5.heap.size, 0, none⟩) 2 2 [10, 24] p6 ip6.out (by omega)).mono ?_
      rintro e p7 ⟨E2, f2, rfl, op7, hb⟩
      have bp7 := Lib.hid (bp6.out.trans (hb.mono bp6.out.size))
      have cp7 := Lib.hid (row_ints op7 (show 2 ≤ 9223372036854775807 by omega) (wholeF_fits _))
      have sp7 := Lib.hid (isp6.out.kept hb)
      clear hb op7
      go_wp2_with fail
      refine hK.out _ _ (SK.out _ bp7.out) (fun hHeld => ?_)
      try simp only [Act.put, List.setIfInBounds_toArray, List.set_cons_zero, List.set_cons_succ]
      refine held_call 23 (by kernel_rfl) rfl (by rfl) (fun K hK => ?_)
      go_simp
      have hEQ := tequal_any G1 3 h1 [1, 1, 2] G2 2 h2 (wholeF [10, 24]) (some ⟨p4.heap.size, 0, none⟩) 3 3 [1, 1, 2] E2 2 f2 (wholeF [10, 24]) p7 (TG1.out.kept bp7.out) (TG2.out.kept bp7.out) sp7.out cp7.out
      rw [show sameT [1, 1, 2] (wholeF [10, 24]) [1, 1, 2] (wholeF [10, 24]) = true by simp [sameT, sameL]] at hEQ
      refine hEQ.mono ?_
      rintro e p8 ⟨rfl, hb⟩
      have bp8 := Lib.hid (bp7.out.trans (hb.mono bp7.out.size))
      clear hb hEQ
      go_wp2_with fail
      refine hK.out _ _ (SK.out _ bp8.out) (fun hHeld => ?_)
      try simp only [Act.put, List.setIfInBounds_toArray, List.set_cons_zero, List.set_cons_succ]
      refine held_take 24 (.bool true) rfl (by kernel_rfl) (by kernel_rfl) (by kernel_rfl) (fun _ _ _ h => h) (by rfl) (by intro w' hS; go_simp) (by assumption) ?_
      try simp only [Act.put, List.setIfInBounds_toArray, List.set_cons_zero, List.set_cons_succ]
      refine held_take 25 (.bool true) rfl (by kernel_rfl) (by kernel_rfl) (by kernel_rfl) (fun _ _ _ h => h) (by rfl) (by intro w' hS; go_simp) (by assumption) ?_
      try simp only [Act.put, List.setIfInBounds_toArray, List.set_cons_zero, List.set_cons_succ]
      refine held_take 26 (.pointer (some ⟨w8.heap.size, 2, none⟩)) rfl (by kernel_rfl) (by kernel_rfl) (by kernel_rfl) (fun _ _ _ h => h) (by rfl) (by intro w' hS; go_simp) (by assumption) ?_
      try simp only [Act.put, List.setIfInBounds_toArray, List.set_cons_zero, List.set_cons_succ]
      refine held_take 27 (.agg #[.slice G3 2 h3, .slice G4 3 h4]) rfl (by kernel_rfl) (by kernel_rfl) (by kernel_rfl) (fun _ _ _ h => h) (by rfl) (by intro w' hS; go_simp) (by assumption) ?_
      try simp only [Act.put, List.setIfInBounds_toArray, List.set_cons_zero, List.set_cons_succ]
      refine held_two 28 29 (by kernel_rfl) rfl rfl (by rfl) (by rfl) (fun K hK => ?_) (fun K hK => ?_)
      · go_simp
        have ip9 := Lib.hid (IntsAt.made p8 3 [1, 3] 2 rfl (by omega) (f13.out))
        have hb : Below p8.heap.size p8 (p8.alloc (.cells ([1, 3].map (Value.int .i64)).toArray 3)) := (Below.refl _ _).alloc (Nat.le_refl _) _
        simp only [List.map_cons, List.map_nil] at ip9 hb
        obtain ⟨p9, hnew⟩ : ∃ wn, p8.alloc (.cells [Value.int .i64 1, Value.int .i64 3].toArray 3) = wn := ⟨_, rfl⟩
        rw [hnew] at ip9 hb ⊢
        clear hnew
        have bp9 := Lib.hid (bp8.out.trans (hb.mono bp8.out.size))
        have kp9 := Lib.hid hb
        clear hb
        refine hK.out _ _ (SK.out _ bp9.out) (fun hHeld => ?_)
        try simp only [Act.put, List.setIfInBounds_toArray, List.set_cons_zero, List.set_cons_succ]
        refine held_call 29 (by kernel_rfl) rfl (by rfl) (fun K hK => ?_)
        go_simp
        have iq1 := Lib.hid (IntsAt.made p9 3 [3, 13, 14] 3 rfl (by omega) (f31314.out))
        have hb : Below p9.heap.size p9 (p9.alloc (.cells ([3, 13, 14].map (Value.int .i64)).toArray 3)) := (Below.refl _ _).alloc (Nat.le_refl _) _
        simp only [List.map_cons, List.map_nil] at iq1 hb
        obtain ⟨q1, hnew⟩ : ∃ wn, p9.alloc (.cells [Value.int .i64 3, Value.int .i64 13, Value.int .i64 14].toArray 3) = wn := ⟨_, rfl⟩
        rw [hnew] at iq1 hb ⊢
        clear hnew
        have bq1 := Lib.hid (bp9.out.trans (hb.mono bp9.out.size))
        have kq1 := Lib.hid hb
        clear hb
        refine hK.out _ _ (SK.out _ bq1.out) (fun hHeld => ?_)
        try simp only [Act.put, List.setIfInBounds_toArray, List.set_cons_zero, List.set_cons_succ]
        have isq1 := Lib.hid (ip9.out.kept kq1.out)
        refine held_call 30 (by kernel_rfl) rfl (by rfl) (fun K hK => ?_)
        go_simp
        refine (lawof_any (some ⟨p8.heap.size, 0, none⟩) 2 2 (some ⟨p9.heap.size, 0, none⟩) 3 3 [3, 13, 14] q1 iq1.out (by omega)).mono ?_
        rintro e q2 ⟨E3, f3, rfl, oq2, hb⟩
        have bq2 := Lib.hid (bq1.out.trans (hb.mono bq1.out.size))
        have cq2 := Lib.hid (row_ints oq2 (show 3 ≤ 9223372036854775807 by omega) (wholeF_fits _))
        have sq2 := Lib.hid (isq1.out.kept hb)
        clear hb oq2
        go_wp2_with fail
        refine hK.out _ _ (SK.out _ bq2.out) (fun hHeld => ?_)
        try simp only [Act.put, List.setIfInBounds_toArray, List.set_cons_zero, List.set_cons_succ]
        refine held_call 31 (by kernel_rfl) rfl (by rfl) (fun K hK => ?_)
        go_simp
        have hEQ := tequal_any G3 2 h3 [1, 3] G4 3 h4 (wholeF [3, 13, 14]) (some ⟨p8.heap.size, 0, none⟩) 2 2 [1, 3] E3 3 f3 (wholeF [3, 13, 14]) q2 (TG3.out.kept bq2.out) (TG4.out.kept bq2.out) sq2.out cq2.out
        rw [show sameT [1, 3] (wholeF [3, 13, 14]) [1, 3] (wholeF [3, 13, 14]) = true by simp [sameT, sameL]] at hEQ
        refine hEQ.mono ?_
        rintro e q3 ⟨rfl, hb⟩
        have bq3 := Lib.hid (bq2.out.trans (hb.mono bq2.out.size))
        clear hb hEQ
        go_wp2_with fail
        refine hK.out _ _ (SK.out _ bq3.out) (fun hHeld => ?_)
        try simp only [Act.put, List.setIfInBounds_toArray, List.set_cons_zero, List.set_cons_succ]
        refine held_take 32 (.bool true) rfl (by kernel_rfl) (by kernel_rfl) (by kernel_rfl) (fun _ _ _ h => h) (by rfl) (by intro w' hS; go_simp) (by assumption) ?_
        try simp only [Act.put, List.setIfInBounds_toArray, List.set_cons_zero, List.set_cons_succ]
        refine held_take 33 (.bool true) rfl (by kernel_rfl) (by kernel_rfl) (by kernel_rfl) (fun _ _ _ h => h) (by rfl) (by intro w' hS; go_simp) (by assumption) ?_
        try simp only [Act.put, List.setIfInBounds_toArray, List.set_cons_zero, List.set_cons_succ]
        refine wpAnyH_done (by kernel_rfl) ?_ _
        go_wp2_with fail
        go_ret
        exact ⟨rfl, yD.out.trans (bq3.out.mono yD.out.size)⟩
      · go_simp
        have ip9 := Lib.hid (IntsAt.made p8 3 [3, 13, 14] 3 rfl (by omega) (f31314.out))
        have hb : Below p8.heap.size p8 (p8.alloc (.cells ([3, 13, 14].map (Value.int .i64)).toArray 3)) := (Below.refl _ _).alloc (Nat.le_refl _) _
        simp only [List.map_cons, List.map_nil] at ip9 hb
        obtain ⟨p9, hnew⟩ : ∃ wn, p8.alloc (.cells [Value.int .i64 3, Value.int .i64 13, Value.int .i64 14].toArray 3) = wn := ⟨_, rfl⟩
        rw [hnew] at ip9 hb ⊢
        clear hnew
        have bp9 := Lib.hid (bp8.out.trans (hb.mono bp8.out.size))
        have kp9 := Lib.hid hb
        clear hb
        refine hK.out _ _ (SK.out _ bp9.out) (fun hHeld => ?_)
        try simp only [Act.put, List.setIfInBounds_toArray, List.set_cons_zero, List.set_cons_succ]
        refine held_call 28 (by kernel_rfl) rfl (by rfl) (fun K hK => ?_)
        go_simp
        have iq1 := Lib.hid (IntsAt.made p9 3 [1, 3] 2 rfl (by omega) (f13.out))
        have hb : Below p9.heap.size p9 (p9.alloc (.cells ([1, 3].map (Value.int .i64)).toArray 3)) := (Below.refl _ _).alloc (Nat.le_refl _) _
        simp only [List.map_cons, List.map_nil] at iq1 hb
        obtain ⟨q1, hnew⟩ : ∃ wn, p9.alloc (.cells [Value.int .i64 1, Value.int .i64 3].toArray 3) = wn := ⟨_, rfl⟩
        rw [hnew] at iq1 hb ⊢
        clear hnew
        have bq1 := Lib.hid (bp9.out.trans (hb.mono bp9.out.size))
        have kq1 := Lib.hid hb
        clear hb
        refine hK.out _ _ (SK.out _ bq1.out) (fun hHeld => ?_)
        try simp only [Act.put, List.setIfInBounds_toArray, List.set_cons_zero, List.set_cons_succ]
        have isq1 := Lib.hid (ip9.out.kept kq1.out)
        refine held_call 30 (by kernel_rfl) rfl (by rfl) (fun K hK => ?_)
        go_simp
        refine (lawof_any (some ⟨p9.heap.size, 0, none⟩) 2 2 (some ⟨p8.heap.size, 0, none⟩) 3 3 [3, 13, 14] q1 isq1.out (by omega)).mono ?_
        rintro e q2 ⟨E3, f3, rfl, oq2, hb⟩
        have bq2 := Lib.hid (bq1.out.trans (hb.mono bq1.out.size))
        have cq2 := Lib.hid (row_ints oq2 (show 3 ≤ 9223372036854775807 by omega) (wholeF_fits _))
        have sq2 := Lib.hid (iq1.out.kept hb)
        clear hb oq2
        go_wp2_with fail
        refine hK.out _ _ (SK.out _ bq2.out) (fun hHeld => ?_)
        try simp only [Act.put, List.setIfInBounds_toArray, List.set_cons_zero, List.set_cons_succ]
        refine held_call 31 (by kernel_rfl) rfl (by rfl) (fun K hK => ?_)
        go_simp
        have hEQ := tequal_any G3 2 h3 [1, 3] G4 3 h4 (wholeF [3, 13, 14]) (some ⟨p9.heap.size, 0, none⟩) 2 2 [1, 3] E3 3 f3 (wholeF [3, 13, 14]) q2 (TG3.out.kept bq2.out) (TG4.out.kept bq2.out) sq2.out cq2.out
        rw [show sameT [1, 3] (wholeF [3, 13, 14]) [1, 3] (wholeF [3, 13, 14]) = true by simp [sameT, sameL]] at hEQ
        refine hEQ.mono ?_
        rintro e q3 ⟨rfl, hb⟩
        have bq3 := Lib.hid (bq2.out.trans (hb.mono bq2.out.size))
        clear hb hEQ
        go_wp2_with fail
        refine hK.out _ _ (SK.out _ bq3.out) (fun hHeld => ?_)
        try simp only [Act.put, List.setIfInBounds_toArray, List.set_cons_zero, List.set_cons_succ]
        refine held_take 32 (.bool true) rfl (by kernel_rfl) (by kernel_rfl) (by kernel_rfl) (fun _ _ _ h => h) (by rfl) (by intro w' hS; go_simp) (by assumption) ?_
        try simp only [Act.put, List.setIfInBounds_toArray, List.set_cons_zero, List.set_cons_succ]
        refine held_take 33 (.bool true) rfl (by kernel_rfl) (by kernel_rfl) (by kernel_rfl) (fun _ _ _ h => h) (by rfl) (by intro w' hS; go_simp) (by assumption) ?_
        try simp only [Act.put, List.setIfInBounds_toArray, List.set_cons_zero, List.set_cons_succ]
        refine wpAnyH_done (by kernel_rfl) ?_ _
        go_wp2_with fail
        go_ret
        exact ⟨rfl, yD.out.trans (bq3.out.mono yD.out.size)⟩
    · go_simp
      have ip5 := Lib.hid (IntsAt.made p4 3 [10, 24] 2 rfl (by omega) (f1024.out))
      have hb : Below p4.heap.size p4 (p4.alloc (.cells ([10, 24].map (Value.int .i64)).toArray 3)) := (Below.refl _ _).alloc (Nat.le_refl _) _
      simp only [List.map_cons, List.map_nil] at ip5 hb
      obtain ⟨p5, hnew⟩ : ∃ wn, p4.alloc (.cells [Value.int .i64 10, Value.int .i64 24].toArray 3) = wn := ⟨_, rfl⟩
      rw [hnew] at ip5 hb ⊢
      clear hnew
      have bp5 := Lib.hid (bp4.out.trans (hb.mono bp4.out.size))
      have kp5 := Lib.hid hb
      clear hb
      refine hK.out _ _ (SK.out _ bp5.out) (fun hHeld => ?_)
      try simp only [Act.put, List.setIfInBounds_toArray, List.set_cons_zero, List.set_cons_succ]
      refine held_call 20 (by kernel_rfl) rfl (by rfl) (fun K hK => ?_)
      go_simp
      have ip6 := Lib.hid (IntsAt.made p5 3 [1, 1, 2] 3 rfl (by omega) (f112.out))
      have hb : Below p5.heap.size p5 (p5.alloc (.cells ([1, 1, 2].map (Value.int .i64)).toArray 3)) := (Below.refl _ _).alloc (Nat.le_refl _) _
      simp only [List.map_cons, List.map_nil] at ip6 hb
      obtain ⟨p6, hnew⟩ : ∃ wn, p5.alloc (.cells [Value.int .i64 1, Value.int .i64 1, Value.int .i64 2].toArray 3) = wn := ⟨_, rfl⟩
      rw [hnew] at ip6 hb ⊢
      clear hnew
      have bp6 := Lib.hid (bp5.out.trans (hb.mono bp5.out.size))
      have kp6 := Lib.hid hb
      clear hb
      refine hK.out _ _ (SK.out _ bp6.out) (fun hHeld => ?_)
      try simp only [Act.put, List.setIfInBounds_toArray, List.set_cons_zero, List.set_cons_succ]
      have isp6 := Lib.hid (ip5.out.kept kp6.out)
      refine held_call 22 (by kernel_rfl) rfl (by rfl) (fun K hK => ?_)
      go_simp
      refine (lawof_any (some ⟨p5.heap.size, 0, none⟩) 3 3 (some ⟨p4.heap.size, 0, none⟩) 2 2 [10, 24] p6 isp6.out (by omega)).mono ?_
      rintro e p7 ⟨E2, f2, rfl, op7, hb⟩
      have bp7 := Lib.hid (bp6.out.trans (hb.mono bp6.out.size))
      have cp7 := Lib.hid (row_ints op7 (show 2 ≤ 9223372036854775807 by omega) (wholeF_fits _))
      have sp7 := Lib.hid (ip6.out.kept hb)
      clear hb op7
      go_wp2_with fail
      refine hK.out _ _ (SK.out _ bp7.out) (fun hHeld => ?_)
      try simp only [Act.put, List.setIfInBounds_toArray, List.set_cons_zero, List.set_cons_succ]
      refine held_call 23 (by kernel_rfl) rfl (by rfl) (fun K hK => ?_)
      go_simp
      have hEQ := tequal_any G1 3 h1 [1, 1, 2] G2 2 h2 (wholeF [10, 24]) (some ⟨p5.heap.size, 0, none⟩) 3 3 [1, 1, 2] E2 2 f2 (wholeF [10, 24]) p7 (TG1.out.kept bp7.out) (TG2.out.kept bp7.out) sp7.out cp7.out
      rw [show sameT [1, 1, 2] (wholeF [10, 24]) [1, 1, 2] (wholeF [10, 24]) = true by simp [sameT, sameL]] at hEQ
      refine hEQ.mono ?_
      rintro e p8 ⟨rfl, hb⟩
      have bp8 := Lib.hid (bp7.out.trans (hb.mono bp7.out.size))
      clear hb hEQ
      go_wp2_with fail
      refine hK.out _ _ (SK.out _ bp8.out) (fun hHeld => ?_)
      try simp only [Act.put, List.setIfInBounds_toArray, List.set_cons_zero, List.set_cons_succ]
      refine held_take 24 (.bool true) rfl (by kernel_rfl) (by kernel_rfl) (by kernel_rfl) (fun _ _ _ h => h) (by rfl) (by intro w' hS; go_simp) (by assumption) ?_
      try simp only [Act.put, List.setIfInBounds_toArray, List.set_cons_zero, List.set_cons_succ]
      refine held_take 25 (.bool true) rfl (by kernel_rfl) (by kernel_rfl) (by kernel_rfl) (fun _ _ _ h => h) (by rfl) (by intro w' hS; go_simp) (by assumption) ?_
      try simp only [Act.put, List.setIfInBounds_toArray, List.set_cons_zero, List.set_cons_succ]
      refine held_take 26 (.pointer (some ⟨w8.heap.size, 2, none⟩)) rfl (by kernel_rfl) (by kernel_rfl) (by kernel_rfl) (fun _ _ _ h => h) (by rfl) (by intro w' hS; go_simp) (by assumption) ?_
      try simp only [Act.put, List.setIfInBounds_toArray, List.set_cons_zero, List.set_cons_succ]
      refine held_take 27 (.agg #[.slice G3 2 h3, .slice G4 3 h4]) rfl (by kernel_rfl) (by kernel_rfl) (by kernel_rfl) (fun _ _ _ h => h) (by rfl) (by intro w' hS; go_simp) (by assumption) ?_
      try simp only [Act.put, List.setIfInBounds_toArray, List.set_cons_zero, List.set_cons_succ]
      refine held_two 28 29 (by kernel_rfl) rfl rfl (by rfl) (by rfl) (fun K hK => ?_) (fun K hK => ?_)
      · go_simp
        have ip9 := Lib.hid (IntsAt.made p8 3 [1, 3] 2 rfl (by omega) (f13.out))
        have hb : Below p8.heap.size p8 (p8.alloc (.cells ([1, 3].map (Value.int .i64)).toArray 3)) := (Below.refl _ _).alloc (Nat.le_refl _) _
        simp only [List.map_cons, List.map_nil] at ip9 hb
        obtain ⟨p9, hnew⟩ : ∃ wn, p8.alloc (.cells [Value.int .i64 1, Value.int .i64 3].toArray 3) = wn := ⟨_, rfl⟩
        rw [hnew] at ip9 hb ⊢
        clear hnew
        have bp9 := Lib.hid (bp8.out.trans (hb.mono bp8.out.size))
        have kp9 := Lib.hid hb
        clear hb
        refine hK.out _ _ (SK.out _ bp9.out) (fun hHeld => ?_)
        try simp only [Act.put, List.setIfInBounds_toArray, List.set_cons_zero, List.set_cons_succ]
        refine held_call 29 (by kernel_rfl) rfl (by rfl) (fun K hK => ?_)
        go_simp
        have iq1 := Lib.hid (IntsAt.made p9 3 [3, 13, 14] 3 rfl (by omega) (f31314.out))
        have hb : Below p9.heap.size p9 (p9.alloc (.cells ([3, 13, 14].map (Value.int .i64)).toArray 3)) := (Below.refl _ _).alloc (Nat.le_refl _) _
        simp only [List.map_cons, List.map_nil] at iq1 hb
        obtain ⟨q1, hnew⟩ : ∃ wn, p9.alloc (.cells [Value.int .i64 3, Value.int .i64 13, Value.int .i64 14].toArray 3) = wn := ⟨_, rfl⟩
        rw [hnew] at iq1 hb ⊢
        clear hnew
        have bq1 := Lib.hid (bp9.out.trans (hb.mono bp9.out.size))
        have kq1 := Lib.hid hb
        clear hb
        refine hK.out _ _ (SK.out _ bq1.out) (fun hHeld => ?_)
        try simp only [Act.put, List.setIfInBounds_toArray, List.set_cons_zero, List.set_cons_succ]
        have isq1 := Lib.hid (ip9.out.kept kq1.out)
        refine held_call 30 (by kernel_rfl) rfl (by rfl) (fun K hK => ?_)
        go_simp
        refine (lawof_any (some ⟨p8.heap.size, 0, none⟩) 2 2 (some ⟨p9.heap.size, 0, none⟩) 3 3 [3, 13, 14] q1 iq1.out (by omega)).mono ?_
        rintro e q2 ⟨E3, f3, rfl, oq2, hb⟩
        have bq2 := Lib.hid (bq1.out.trans (hb.mono bq1.out.size))
        have cq2 := Lib.hid (row_ints oq2 (show 3 ≤ 9223372036854775807 by omega) (wholeF_fits _))
        have sq2 := Lib.hid (isq1.out.kept hb)
        clear hb oq2
        go_wp2_with fail
        refine hK.out _ _ (SK.out _ bq2.out) (fun hHeld => ?_)
        try simp only [Act.put, List.setIfInBounds_toArray, List.set_cons_zero, List.set_cons_succ]
        refine held_call 31 (by kernel_rfl) rfl (by rfl) (fun K hK => ?_)
        go_simp
        have hEQ := tequal_any G3 2 h3 [1, 3] G4 3 h4 (wholeF [3, 13, 14]) (some ⟨p8.heap.size, 0, none⟩) 2 2 [1, 3] E3 3 f3 (wholeF [3, 13, 14]) q2 (TG3.out.kept bq2.out) (TG4.out.kept bq2.out) sq2.out cq2.out
        rw [show sameT [1, 3] (wholeF [3, 13, 14]) [1, 3] (wholeF [3, 13, 14]) = true by simp [sameT, sameL]] at hEQ
        refine hEQ.mono ?_
        rintro e q3 ⟨rfl, hb⟩
        have bq3 := Lib.hid (bq2.out.trans (hb.mono bq2.out.size))
        clear hb hEQ
        go_wp2_with fail
        refine hK.out _ _ (SK.out _ bq3.out) (fun hHeld => ?_)
        try simp only [Act.put, List.setIfInBounds_toArray, List.set_cons_zero, List.set_cons_succ]
        refine held_take 32 (.bool true) rfl (by kernel_rfl) (by kernel_rfl) (by kernel_rfl) (fun _ _ _ h => h) (by rfl) (by intro w' hS; go_simp) (by assumption) ?_
        try simp only [Act.put, List.setIfInBounds_toArray, List.set_cons_zero, List.set_cons_succ]
        refine held_take 33 (.bool true) rfl (by kernel_rfl) (by kernel_rfl) (by kernel_rfl) (fun _ _ _ h => h) (by rfl) (by intro w' hS; go_simp) (by assumption) ?_
        try simp only [Act.put, List.setIfInBounds_toArray, List.set_cons_zero, List.set_cons_succ]
        refine wpAnyH_done (by kernel_rfl) ?_ _
        go_wp2_with fail
        go_ret
        exact ⟨rfl, yD.out.trans (bq3.out.mono yD.out.size)⟩
      · go_simp
        have ip9 := Lib.hid (IntsAt.made p8 3 [3, 13, 14] 3 rfl (by omega) (f31314.out))
        have hb : Below p8.heap.size p8 (p8.alloc (.cells ([3, 13, 14].map (Value.int .i64)).toArray 3)) := (Below.refl _ _).alloc (Nat.le_refl _) _
        simp only [List.map_cons, List.map_nil] at ip9 hb
        obtain ⟨p9, hnew⟩ : ∃ wn, p8.alloc (.cells [Value.int .i64 3, Value.int .i64 13, Value.int .i64 14].toArray 3) = wn := ⟨_, rfl⟩
        rw [hnew] at ip9 hb ⊢
        clear hnew
        have bp9 := Lib.hid (bp8.out.trans (hb.mono bp8.out.size))
        have kp9 := Lib.hid hb
        clear hb
        refine hK.out _ _ (SK.out _ bp9.out) (fun hHeld => ?_)
        try simp only [Act.put, List.setIfInBounds_toArray, List.set_cons_zero, List.set_cons_succ]
        refine held_call 28 (by kernel_rfl) rfl (by rfl) (fun K hK => ?_)
        go_simp
        have iq1 := Lib.hid (IntsAt.made p9 3 [1, 3] 2 rfl (by omega) (f13.out))
        have hb : Below p9.heap.size p9 (p9.alloc (.cells ([1, 3].map (Value.int .i64)).toArray 3)) := (Below.refl _ _).alloc (Nat.le_refl _) _
        simp only [List.map_cons, List.map_nil] at iq1 hb
        obtain ⟨q1, hnew⟩ : ∃ wn, p9.alloc (.cells [Value.int .i64 1, Value.int .i64 3].toArray 3) = wn := ⟨_, rfl⟩
        rw [hnew] at iq1 hb ⊢
        clear hnew
        have bq1 := Lib.hid (bp9.out.trans (hb.mono bp9.out.size))
        have kq1 := Lib.hid hb
        clear hb
        refine hK.out _ _ (SK.out _ bq1.out) (fun hHeld => ?_)
        try simp only [Act.put, List.setIfInBounds_toArray, List.set_cons_zero, List.set_cons_succ]
        have isq1 := Lib.hid (ip9.out.kept kq1.out)
        refine held_call 30 (by kernel_rfl) rfl (by rfl) (fun K hK => ?_)
        go_simp
        refine (lawof_any (some ⟨p9.heap.size, 0, none⟩) 2 2 (some ⟨p8.heap.size, 0, none⟩) 3 3 [3, 13, 14] q1 isq1.out (by omega)).mono ?_
        rintro e q2 ⟨E3, f3, rfl, oq2, hb⟩
        have bq2 := Lib.hid (bq1.out.trans (hb.mono bq1.out.size))
        have cq2 := Lib.hid (row_ints oq2 (show 3 ≤ 9223372036854775807 by omega) (wholeF_fits _))
        have sq2 := Lib.hid (iq1.out.kept hb)
        clear hb oq2
        go_wp2_with fail
        refine hK.out _ _ (SK.out _ bq2.out) (fun hHeld => ?_)
        try simp only [Act.put, List.setIfInBounds_toArray, List.set_cons_zero, List.set_cons_succ]
        refine held_call 31 (by kernel_rfl) rfl (by rfl) (fun K hK => ?_)
        go_simp
        have hEQ := tequal_any G3 2 h3 [1, 3] G4 3 h4 (wholeF [3, 13, 14]) (some ⟨p9.heap.size, 0, none⟩) 2 2 [1, 3] E3 3 f3 (wholeF [3, 13, 14]) q2 (TG3.out.kept bq2.out) (TG4.out.kept bq2.out) sq2.out cq2.out
        rw [show sameT [1, 3] (wholeF [3, 13, 14]) [1, 3] (wholeF [3, 13, 14]) = true by simp [sameT, sameL]] at hEQ
        refine hEQ.mono ?_
        rintro e q3 ⟨rfl, hb⟩
        have bq3 := Lib.hid (bq2.out.trans (hb.mono bq2.out.size))
        clear hb hEQ
        go_wp2_with fail
        refine hK.out _ _ (SK.out _ bq3.out) (fun hHeld => ?_)
        try simp only [Act.put, List.setIfInBounds_toArray, List.set_cons_zero, List.set_cons_succ]
        refine held_take 32 (.bool true) rfl (by kernel_rfl) (by kernel_rfl) (by kernel_rfl) (fun _ _ _ h => h) (by rfl) (by intro w' hS; go_simp) (by assumption) ?_
        try simp only [Act.put, List.setIfInBounds_toArray, List.set_cons_zero, List.set_cons_succ]
        refine held_take 33 (.bool true) rfl (by kernel_rfl) (by kernel_rfl) (by kernel_rfl) (fun _ _ _ h => h) (by rfl) (by intro w' hS; go_simp) (by assumption) ?_
        try simp only [Act.put, List.setIfInBounds_toArray, List.set_cons_zero, List.set_cons_succ]
        refine wpAnyH_done (by kernel_rfl) ?_ _
        go_wp2_with fail
        go_ret
        exact ⟨rfl, yD.out.trans (bq3.out.mono yD.out.size)⟩
  · go_simp
    have ip1 := Lib.hid (IntsAt.made wd 3 [3, 7] 2 rfl (by omega) (f37.out))
    have hb : Below wd.heap.size wd (wd.alloc (.cells ([3, 7].map (Value.int .i64)).toArray 3)) := (Below.refl _ _).alloc (Nat.le_refl _) _
    simp only [List.map_cons, List.map_nil] at ip1 hb
    obtain ⟨p1, hnew⟩ : ∃ wn, wd.alloc (.cells [Value.int .i64 3, Value.int .i64 7].toArray 3) = wn := ⟨_, rfl⟩
    rw [hnew] at ip1 hb ⊢
    clear hnew
    have bp1 := Lib.hid (bwd.out.trans (hb.mono bwd.out.size))
    have kp1 := Lib.hid hb
    clear hb
    refine hK.out _ _ (SK.out _ bp1.out) (fun hHeld => ?_)
    try simp only [Act.put, List.setIfInBounds_toArray, List.set_cons_zero, List.set_cons_succ]
    refine held_call 12 (by kernel_rfl) rfl (by rfl) (fun K hK => ?_)
    go_simp
    have ip2 := Lib.hid (IntsAt.made p1 3 [1, 2] 2 rfl (by omega) (f12.out))
    have hb : Below p1.heap.size p1 (p1.alloc (.cells ([1, 2].map (Value.int .i64)).toArray 3)) := (Below.refl _ _).alloc (Nat.le_refl _) _
    simp only [List.map_cons, List.map_nil] at ip2 hb
    obtain ⟨p2, hnew⟩ : ∃ wn, p1.alloc (.cells [Value.int .i64 1, Value.int .i64 2].toArray 3) = wn := ⟨_, rfl⟩
    rw [hnew] at ip2 hb ⊢
    clear hnew
    have bp2 := Lib.hid (bp1.out.trans (hb.mono bp1.out.size))
    have kp2 := Lib.hid hb
    clear hb
    refine hK.out _ _ (SK.out _ bp2.out) (fun hHeld => ?_)
    try simp only [Act.put, List.setIfInBounds_toArray, List.set_cons_zero, List.set_cons_succ]
    have isp2 := Lib.hid (ip1.out.kept kp2.out)
    refine held_call 14 (by kernel_rfl) rfl (by rfl) (fun K hK => ?_)
    go_simp
    refine (lawof_any (some ⟨p1.heap.size, 0, none⟩) 2 2 (some ⟨wd.heap.size, 0, none⟩) 2 2 [3, 7] p2 isp2.out (by omega)).mono ?_
    rintro e p3 ⟨E1, f1, rfl, op3, hb⟩
    have bp3 := Lib.hid (bp2.out.trans (hb.mono bp2.out.size))
    have cp3 := Lib.hid (row_ints op3 (show 2 ≤ 9223372036854775807 by omega) (wholeF_fits _))
    have sp3 := Lib.hid (ip2.out.kept hb)
    clear hb op3
    go_wp2_with fail
    refine hK.out _ _ (SK.out _ bp3.out) (fun hHeld => ?_)
    try simp only [Act.put, List.setIfInBounds_toArray, List.set_cons_zero, List.set_cons_succ]
    refine held_call 15 (by kernel_rfl) rfl (by rfl) (fun K hK => ?_)
    go_simp
    have hEQ := tequal_any C1 2 d1 [1, 2] C2 2 d2 (wholeF [3, 7]) (some ⟨p1.heap.size, 0, none⟩) 2 2 [1, 2] E1 2 f1 (wholeF [3, 7]) p3 (TYv.out.kept bp3.out).1 (TYv.out.kept bp3.out).2.1 sp3.out cp3.out
    rw [show sameT [1, 2] (wholeF [3, 7]) [1, 2] (wholeF [3, 7]) = true by simp [sameT, sameL]] at hEQ
    refine hEQ.mono ?_
    rintro e p4 ⟨rfl, hb⟩
    have bp4 := Lib.hid (bp3.out.trans (hb.mono bp3.out.size))
    clear hb hEQ
    go_wp2_with fail
    refine hK.out _ _ (SK.out _ bp4.out) (fun hHeld => ?_)
    try simp only [Act.put, List.setIfInBounds_toArray, List.set_cons_zero, List.set_cons_succ]
    refine held_take 16 (.bool true) rfl (by kernel_rfl) (by kernel_rfl) (by kernel_rfl) (fun _ _ _ h => h) (by rfl) (by intro w' hS; go_simp) (by assumption) ?_
    try simp only [Act.put, List.setIfInBounds_toArray, List.set_cons_zero, List.set_cons_succ]
    refine held_take 17 (.bool true) rfl (by kernel_rfl) (by kernel_rfl) (by kernel_rfl) (fun _ _ _ h => h) (by rfl) (by intro w' hS; go_simp) (by assumption) ?_
    try simp only [Act.put, List.setIfInBounds_toArray, List.set_cons_zero, List.set_cons_succ]
    refine held_take 18 (.pointer (some ⟨w8.heap.size, 0, none⟩)) rfl (by kernel_rfl) (by kernel_rfl) (by kernel_rfl) (fun _ _ _ h => h) (by rfl) (by intro w' hS; go_simp) (by assumption) ?_
    try simp only [Act.put, List.setIfInBounds_toArray, List.set_cons_zero, List.set_cons_succ]
    refine held_take 19 (.agg #[.slice G1 3 h1, .slice G2 2 h2]) rfl (by kernel_rfl) (by kernel_rfl) (by kernel_rfl) (fun _ _ _ h => h) (by rfl) (by intro w' hS; go_simp) (by assumption) ?_
    try simp only [Act.put, List.setIfInBounds_toArray, List.set_cons_zero, List.set_cons_succ]
    refine held_two 20 21 (by kernel_rfl) rfl rfl (by rfl) (by rfl) (fun K hK => ?_) (fun K hK => ?_)
    · go_simp
      have ip5 := Lib.hid (IntsAt.made p4 3 [1, 1, 2] 3 rfl (by omega) (f112.out))
      have hb : Below p4.heap.size p4 (p4.alloc (.cells ([1, 1, 2].map (Value.int .i64)).toArray 3)) := (Below.refl _ _).alloc (Nat.le_refl _) _
      simp only [List.map_cons, List.map_nil] at ip5 hb
      obtain ⟨p5, hnew⟩ : ∃ wn, p4.alloc (.cells [Value.int .i64 1, Value.int .i64 1, Value.int .i64 2].toArray 3) = wn := ⟨_, rfl⟩
      rw [hnew] at ip5 hb ⊢
      clear hnew
      have bp5 := Lib.hid (bp4.out.trans (hb.mono bp4.out.size))
      have kp5 := Lib.hid hb
      clear hb
      refine hK.out _ _ (SK.out _ bp5.out) (fun hHeld => ?_)
      try simp only [Act.put, List.setIfInBounds_toArray, List.set_cons_zero, List.set_cons_succ]
      refine held_call 21 (by kernel_rfl) rfl (by rfl) (fun K hK => ?_)
      go_simp
      have ip6 := Lib.hid (IntsAt.made p5 3 [10, 24] 2 rfl (by omega) (f1024.out))
      have hb : Below p5.heap.size p5 (p5.alloc (.cells ([10, 24].map (Value.int .i64)).toArray 3)) := (Below.refl _ _).alloc (Nat.le_refl _) _
      simp only [List.map_cons, List.map_nil] at ip6 hb
      obtain ⟨p6, hnew⟩ : ∃ wn, p5.alloc (.cells [Value.int .i64 10, Value.int .i64 24].toArray 3) = wn := ⟨_, rfl⟩
      rw [hnew] at ip6 hb ⊢
      clear hnew
      have bp6 := Lib.hid (bp5.out.trans (hb.mono bp5.out.size))
      have kp6 := Lib.hid hb
      clear hb
      refine hK.out _ _ (SK.out _ bp6.out) (fun hHeld => ?_)
      try simp only [Act.put, List.setIfInBounds_toArray, List.set_cons_zero, List.set_cons_succ]
      have isp6 := Lib.hid (ip5.out.kept kp6.out)
      refine held_call 22 (by kernel_rfl) rfl (by rfl) (fun K hK => ?_)
      go_simp
      refine (lawof_any (some ⟨p4.heap.size, 0, none⟩) 3 3 (some ⟨p5.heap.size, 0, none⟩) 2 2 [10, 24] p6 ip6.out (by omega)).mono ?_
      rintro e p7 ⟨E2, f2, rfl, op7, hb⟩
      have bp7 := Lib.hid (bp6.out.trans (hb.mono bp6.out.size))
      have cp7 := Lib.hid (row_ints op7 (show 2 ≤ 9223372036854775807 by omega) (wholeF_fits _))
      have sp7 := Lib.hid (isp6.out.kept hb)
      clear hb op7
      go_wp2_with fail
      refine hK.out _ _ (SK.out _ bp7.out) (fun hHeld => ?_)
      try simp only [Act.put, List.setIfInBounds_toArray, List.set_cons_zero, List.set_cons_succ]
      refine held_call 23 (by kernel_rfl) rfl (by rfl) (fun K hK => ?_)
      go_simp
      have hEQ := tequal_any G1 3 h1 [1, 1, 2] G2 2 h2 (wholeF [10, 24]) (some ⟨p4.heap.size, 0, none⟩) 3 3 [1, 1, 2] E2 2 f2 (wholeF [10, 24]) p7 (TG1.out.kept bp7.out) (TG2.out.kept bp7.out) sp7.out cp7.out
      rw [show sameT [1, 1, 2] (wholeF [10, 24]) [1, 1, 2] (wholeF [10, 24]) = true by simp [sameT, sameL]] at hEQ
      refine hEQ.mono ?_
      rintro e p8 ⟨rfl, hb⟩
      have bp8 := Lib.hid (bp7.out.trans (hb.mono bp7.out.size))
      clear hb hEQ
      go_wp2_with fail
      refine hK.out _ _ (SK.out _ bp8.out) (fun hHeld => ?_)
      try simp only [Act.put, List.setIfInBounds_toArray, List.set_cons_zero, List.set_cons_succ]
      refine held_take 24 (.bool true) rfl (by kernel_rfl) (by kernel_rfl) (by kernel_rfl) (fun _ _ _ h => h) (by rfl) (by intro w' hS; go_simp) (by assumption) ?_
      try simp only [Act.put, List.setIfInBounds_toArray, List.set_cons_zero, List.set_cons_succ]
      refine held_take 25 (.bool true) rfl (by kernel_rfl) (by kernel_rfl) (by kernel_rfl) (fun _ _ _ h => h) (by rfl) (by intro w' hS; go_simp) (by assumption) ?_
      try simp only [Act.put, List.setIfInBounds_toArray, List.set_cons_zero, List.set_cons_succ]
      refine held_take 26 (.pointer (some ⟨w8.heap.size, 2, none⟩)) rfl (by kernel_rfl) (by kernel_rfl) (by kernel_rfl) (fun _ _ _ h => h) (by rfl) (by intro w' hS; go_simp) (by assumption) ?_
      try simp only [Act.put, List.setIfInBounds_toArray, List.set_cons_zero, List.set_cons_succ]
      refine held_take 27 (.agg #[.slice G3 2 h3, .slice G4 3 h4]) rfl (by kernel_rfl) (by kernel_rfl) (by kernel_rfl) (fun _ _ _ h => h) (by rfl) (by intro w' hS; go_simp) (by assumption) ?_
      try simp only [Act.put, List.setIfInBounds_toArray, List.set_cons_zero, List.set_cons_succ]
      refine held_two 28 29 (by kernel_rfl) rfl rfl (by rfl) (by rfl) (fun K hK => ?_) (fun K hK => ?_)
      · go_simp
        have ip9 := Lib.hid (IntsAt.made p8 3 [1, 3] 2 rfl (by omega) (f13.out))
        have hb : Below p8.heap.size p8 (p8.alloc (.cells ([1, 3].map (Value.int .i64)).toArray 3)) := (Below.refl _ _).alloc (Nat.le_refl _) _
        simp only [List.map_cons, List.map_nil] at ip9 hb
        obtain ⟨p9, hnew⟩ : ∃ wn, p8.alloc (.cells [Value.int .i64 1, Value.int .i64 3].toArray 3) = wn := ⟨_, rfl⟩
        rw [hnew] at ip9 hb ⊢
        clear hnew
        have bp9 := Lib.hid (bp8.out.trans (hb.mono bp8.out.size))
        have kp9 := Lib.hid hb
        clear hb
        refine hK.out _ _ (SK.out _ bp9.out) (fun hHeld => ?_)
        try simp only [Act.put, List.setIfInBounds_toArray, List.set_cons_zero, List.set_cons_succ]
        refine held_call 29 (by kernel_rfl) rfl (by rfl) (fun K hK => ?_)
        go_simp
        have iq1 := Lib.hid (IntsAt.made p9 3 [3, 13, 14] 3 rfl (by omega) (f31314.out))
        have hb : Below p9.heap.size p9 (p9.alloc (.cells ([3, 13, 14].map (Value.int .i64)).toArray 3)) := (Below.refl _ _).alloc (Nat.le_refl _) _
        simp only [List.map_cons, List.map_nil] at iq1 hb
        obtain ⟨q1, hnew⟩ : ∃ wn, p9.alloc (.cells [Value.int .i64 3, Value.int .i64 13, Value.int .i64 14].toArray 3) = wn := ⟨_, rfl⟩
        rw [hnew] at iq1 hb ⊢
        clear hnew
        have bq1 := Lib.hid (bp9.out.trans (hb.mono bp9.out.size))
        have kq1 := Lib.hid hb
        clear hb
        refine hK.out _ _ (SK.out _ bq1.out) (fun hHeld => ?_)
        try simp only [Act.put, List.setIfInBounds_toArray, List.set_cons_zero, List.set_cons_succ]
        have isq1 := Lib.hid (ip9.out.kept kq1.out)
        refine held_call 30 (by kernel_rfl) rfl (by rfl) (fun K hK => ?_)
        go_simp
        refine (lawof_any (some ⟨p8.heap.size, 0, none⟩) 2 2 (some ⟨p9.heap.size, 0, none⟩) 3 3 [3, 13, 14] q1 iq1.out (by omega)).mono ?_
        rintro e q2 ⟨E3, f3, rfl, oq2, hb⟩
        have bq2 := Lib.hid (bq1.out.trans (hb.mono bq1.out.size))
        have cq2 := Lib.hid (row_ints oq2 (show 3 ≤ 9223372036854775807 by omega) (wholeF_fits _))
        have sq2 := Lib.hid (isq1.out.kept hb)
        clear hb oq2
        go_wp2_with fail
        refine hK.out _ _ (SK.out _ bq2.out) (fun hHeld => ?_)
        try simp only [Act.put, List.setIfInBounds_toArray, List.set_cons_zero, List.set_cons_succ]
        refine held_call 31 (by kernel_rfl) rfl (by rfl) (fun K hK => ?_)
        go_simp
        have hEQ := tequal_any G3 2 h3 [1, 3] G4 3 h4 (wholeF [3, 13, 14]) (some ⟨p8.heap.size, 0, none⟩) 2 2 [1, 3] E3 3 f3 (wholeF [3, 13, 14]) q2 (TG3.out.kept bq2.out) (TG4.out.kept bq2.out) sq2.out cq2.out
        rw [show sameT [1, 3] (wholeF [3, 13, 14]) [1, 3] (wholeF [3, 13, 14]) = true by simp [sameT, sameL]] at hEQ
        refine hEQ.mono ?_
        rintro e q3 ⟨rfl, hb⟩
        have bq3 := Lib.hid (bq2.out.trans (hb.mono bq2.out.size))
        clear hb hEQ
        go_wp2_with fail
        refine hK.out _ _ (SK.out _ bq3.out) (fun hHeld => ?_)
        try simp only [Act.put, List.setIfInBounds_toArray, List.set_cons_zero, List.set_cons_succ]
        refine held_take 32 (.bool true) rfl (by kernel_rfl) (by kernel_rfl) (by kernel_rfl) (fun _ _ _ h => h) (by rfl) (by intro w' hS; go_simp) (by assumption) ?_
        try simp only [Act.put, List.setIfInBounds_toArray, List.set_cons_zero, List.set_cons_succ]
        refine held_take 33 (.bool true) rfl (by kernel_rfl) (by kernel_rfl) (by kernel_rfl) (fun _ _ _ h => h) (by rfl) (by intro w' hS; go_simp) (by assumption) ?_
        try simp only [Act.put, List.setIfInBounds_toArray, List.set_cons_zero, List.set_cons_succ]
        refine wpAnyH_done (by kernel_rfl) ?_ _
        go_wp2_with fail
        go_ret
        exact ⟨rfl, yD.out.trans (bq3.out.mono yD.out.size)⟩
      · go_simp
        have ip9 := Lib.hid (IntsAt.made p8 3 [3, 13, 14] 3 rfl (by omega) (f31314.out))
        have hb : Below p8.heap.size p8 (p8.alloc (.cells ([3, 13, 14].map (Value.int .i64)).toArray 3)) := (Below.refl _ _).alloc (Nat.le_refl _) _
        simp only [List.map_cons, List.map_nil] at ip9 hb
        obtain ⟨p9, hnew⟩ : ∃ wn, p8.alloc (.cells [Value.int .i64 3, Value.int .i64 13, Value.int .i64 14].toArray 3) = wn := ⟨_, rfl⟩
        rw [hnew] at ip9 hb ⊢
        clear hnew
        have bp9 := Lib.hid (bp8.out.trans (hb.mono bp8.out.size))
        have kp9 := Lib.hid hb
        clear hb
        refine hK.out _ _ (SK.out _ bp9.out) (fun hHeld => ?_)
        try simp only [Act.put, List.setIfInBounds_toArray, List.set_cons_zero, List.set_cons_succ]
        refine held_call 28 (by kernel_rfl) rfl (by rfl) (fun K hK => ?_)
        go_simp
        have iq1 := Lib.hid (IntsAt.made p9 3 [1, 3] 2 rfl (by omega) (f13.out))
        have hb : Below p9.heap.size p9 (p9.alloc (.cells ([1, 3].map (Value.int .i64)).toArray 3)) := (Below.refl _ _).alloc (Nat.le_refl _) _
        simp only [List.map_cons, List.map_nil] at iq1 hb
        obtain ⟨q1, hnew⟩ : ∃ wn, p9.alloc (.cells [Value.int .i64 1, Value.int .i64 3].toArray 3) = wn := ⟨_, rfl⟩
        rw [hnew] at iq1 hb ⊢
        clear hnew
        have bq1 := Lib.hid (bp9.out.trans (hb.mono bp9.out.size))
        have kq1 := Lib.hid hb
        clear hb
        refine hK.out _ _ (SK.out _ bq1.out) (fun hHeld => ?_)
        try simp only [Act.put, List.setIfInBounds_toArray, List.set_cons_zero, List.set_cons_succ]
        have isq1 := Lib.hid (ip9.out.kept kq1.out)
        refine held_call 30 (by kernel_rfl) rfl (by rfl) (fun K hK => ?_)
        go_simp
        refine (lawof_any (some ⟨p9.heap.size, 0, none⟩) 2 2 (some ⟨p8.heap.size, 0, none⟩) 3 3 [3, 13, 14] q1 isq1.out (by omega)).mono ?_
        rintro e q2 ⟨E3, f3, rfl, oq2, hb⟩
        have bq2 := Lib.hid (bq1.out.trans (hb.mono bq1.out.size))
        have cq2 := Lib.hid (row_ints oq2 (show 3 ≤ 9223372036854775807 by omega) (wholeF_fits _))
        have sq2 := Lib.hid (iq1.out.kept hb)
        clear hb oq2
        go_wp2_with fail
        refine hK.out _ _ (SK.out _ bq2.out) (fun hHeld => ?_)
        try simp only [Act.put, List.setIfInBounds_toArray, List.set_cons_zero, List.set_cons_succ]
        refine held_call 31 (by kernel_rfl) rfl (by rfl) (fun K hK => ?_)
        go_simp
        have hEQ := tequal_any G3 2 h3 [1, 3] G4 3 h4 (wholeF [3, 13, 14]) (some ⟨p9.heap.size, 0, none⟩) 2 2 [1, 3] E3 3 f3 (wholeF [3, 13, 14]) q2 (TG3.out.kept bq2.out) (TG4.out.kept bq2.out) sq2.out cq2.out
        rw [show sameT [1, 3] (wholeF [3, 13, 14]) [1, 3] (wholeF [3, 13, 14]) = true by simp [sameT, sameL]] at hEQ
        refine hEQ.mono ?_
        rintro e q3 ⟨rfl, hb⟩
        have bq3 := Lib.hid (bq2.out.trans (hb.mono bq2.out.size))
        clear hb hEQ
        go_wp2_with fail
        refine hK.out _ _ (SK.out _ bq3.out) (fun hHeld => ?_)
        try simp only [Act.put, List.setIfInBounds_toArray, List.set_cons_zero, List.set_cons_succ]
        refine held_take 32 (.bool true) rfl (by kernel_rfl) (by kernel_rfl) (by kernel_rfl) (fun _ _ _ h => h) (by rfl) (by intro w' hS; go_simp) (by assumption) ?_
        try simp only [Act.put, List.setIfInBounds_toArray, List.set_cons_zero, List.set_cons_succ]
        refine held_take 33 (.bool true) rfl (by kernel_rfl) (by kernel_rfl) (by kernel_rfl) (fun _ _ _ h => h) (by rfl) (by intro w' hS; go_simp) (by assumption) ?_
        try simp only [Act.put, List.setIfInBounds_toArray, List.set_cons_zero, List.set_cons_succ]
        refine wpAnyH_done (by kernel_rfl) ?_ _
        go_wp2_with fail
        go_ret
        exact ⟨rfl, yD.out.trans (bq3.out.mono yD.out.size)⟩
    · go_simp
      have ip5 := Lib.hid (IntsAt.made p4 3 [10, 24] 2 rfl (by omega) (f1024.out))
      have hb : Below p4.heap.size p4 (p4.alloc (.cells ([10, 24].map (Value.int .i64)).toArray 3)) := (Below.refl _ _).alloc (Nat.le_refl _) _
      simp only [List.map_cons, List.map_nil] at ip5 hb
      obtain ⟨p5, hnew⟩ : ∃ wn, p4.alloc (.cells [Value.int .i64 10, Value.int .i64 24].toArray 3) = wn := ⟨_, rfl⟩
      rw [hnew] at ip5 hb ⊢
      clear hnew
      have bp5 := Lib.hid (bp4.out.trans (hb.mono bp4.out.size))
      have kp5 := Lib.hid hb
      clear hb
      refine hK.out _ _ (SK.out _ bp5.out) (fun hHeld => ?_)
      try simp only [Act.put, List.setIfInBounds_toArray, List.set_cons_zero, List.set_cons_succ]
      refine held_call 20 (by kernel_rfl) rfl (by rfl) (fun K hK => ?_)
      go_simp
      have ip6 := Lib.hid (IntsAt.made p5 3 [1, 1, 2] 3 rfl (by omega) (f112.out))
      have hb : Below p5.heap.size p5 (p5.alloc (.cells ([1, 1, 2].map (Value.int .i64)).toArray 3)) := (Below.refl _ _).alloc (Nat.le_refl _) _
      simp only [List.map_cons, List.map_nil] at ip6 hb
      obtain ⟨p6, hnew⟩ : ∃ wn, p5.alloc (.cells [Value.int .i64 1, Value.int .i64 1, Value.int .i64 2].toArray 3) = wn := ⟨_, rfl⟩
      rw [hnew] at ip6 hb ⊢
      clear hnew
      have bp6 := Lib.hid (bp5.out.trans (hb.mono bp5.out.size))
      have kp6 := Lib.hid hb
      clear hb
      refine hK.out _ _ (SK.out _ bp6.out) (fun hHeld => ?_)
      try simp only [Act.put, List.setIfInBounds_toArray, List.set_cons_zero, List.set_cons_succ]
      have isp6 := Lib.hid (ip5.out.kept kp6.out)
      refine held_call 22 (by kernel_rfl) rfl (by rfl) (fun K hK => ?_)
      go_simp
      refine (lawof_any (some ⟨p5.heap.size, 0, none⟩) 3 3 (some ⟨p4.heap.size, 0, none⟩) 2 2 [10, 24] p6 isp6.out (by omega)).mono ?_
      rintro e p7 ⟨E2, f2, rfl, op7, hb⟩
      have bp7 := Lib.hid (bp6.out.trans (hb.mono bp6.out.size))
      have cp7 := Lib.hid (row_ints op7 (show 2 ≤ 9223372036854775807 by omega) (wholeF_fits _))
      have sp7 := Lib.hid (ip6.out.kept hb)
      clear hb op7
      go_wp2_with fail
      refine hK.out _ _ (SK.out _ bp7.out) (fun hHeld => ?_)
      try simp only [Act.put, List.setIfInBounds_toArray, List.set_cons_zero, List.set_cons_succ]
      refine held_call 23 (by kernel_rfl) rfl (by rfl) (fun K hK => ?_)
      go_simp
      have hEQ := tequal_any G1 3 h1 [1, 1, 2] G2 2 h2 (wholeF [10, 24]) (some ⟨p5.heap.size, 0, none⟩) 3 3 [1, 1, 2] E2 2 f2 (wholeF [10, 24]) p7 (TG1.out.kept bp7.out) (TG2.out.kept bp7.out) sp7.out cp7.out
      rw [show sameT [1, 1, 2] (wholeF [10, 24]) [1, 1, 2] (wholeF [10, 24]) = true by simp [sameT, sameL]] at hEQ
      refine hEQ.mono ?_
      rintro e p8 ⟨rfl, hb⟩
      have bp8 := Lib.hid (bp7.out.trans (hb.mono bp7.out.size))
      clear hb hEQ
      go_wp2_with fail
      refine hK.out _ _ (SK.out _ bp8.out) (fun hHeld => ?_)
      try simp only [Act.put, List.setIfInBounds_toArray, List.set_cons_zero, List.set_cons_succ]
      refine held_take 24 (.bool true) rfl (by kernel_rfl) (by kernel_rfl) (by kernel_rfl) (fun _ _ _ h => h) (by rfl) (by intro w' hS; go_simp) (by assumption) ?_
      try simp only [Act.put, List.setIfInBounds_toArray, List.set_cons_zero, List.set_cons_succ]
      refine held_take 25 (.bool true) rfl (by kernel_rfl) (by kernel_rfl) (by kernel_rfl) (fun _ _ _ h => h) (by rfl) (by intro w' hS; go_simp) (by assumption) ?_
      try simp only [Act.put, List.setIfInBounds_toArray, List.set_cons_zero, List.set_cons_succ]
      refine held_take 26 (.pointer (some ⟨w8.heap.size, 2, none⟩)) rfl (by kernel_rfl) (by kernel_rfl) (by kernel_rfl) (fun _ _ _ h => h) (by rfl) (by intro w' hS; go_simp) (by assumption) ?_
      try simp only [Act.put, List.setIfInBounds_toArray, List.set_cons_zero, List.set_cons_succ]
      refine held_take 27 (.agg #[.slice G3 2 h3, .slice G4 3 h4]) rfl (by kernel_rfl) (by kernel_rfl) (by kernel_rfl) (fun _ _ _ h => h) (by rfl) (by intro w' hS; go_simp) (by assumption) ?_
      try simp only [Act.put, List.setIfInBounds_toArray, List.set_cons_zero, List.set_cons_succ]
      refine held_two 28 29 (by kernel_rfl) rfl rfl (by rfl) (by rfl) (fun K hK => ?_) (fun K hK => ?_)
      · go_simp
        have ip9 := Lib.hid (IntsAt.made p8 3 [1, 3] 2 rfl (by omega) (f13.out))
        have hb : Below p8.heap.size p8 (p8.alloc (.cells ([1, 3].map (Value.int .i64)).toArray 3)) := (Below.refl _ _).alloc (Nat.le_refl _) _
        simp only [List.map_cons, List.map_nil] at ip9 hb
        obtain ⟨p9, hnew⟩ : ∃ wn, p8.alloc (.cells [Value.int .i64 1, Value.int .i64 3].toArray 3) = wn := ⟨_, rfl⟩
        rw [hnew] at ip9 hb ⊢
        clear hnew
        have bp9 := Lib.hid (bp8.out.trans (hb.mono bp8.out.size))
        have kp9 := Lib.hid hb
        clear hb
        refine hK.out _ _ (SK.out _ bp9.out) (fun hHeld => ?_)
        try simp only [Act.put, List.setIfInBounds_toArray, List.set_cons_zero, List.set_cons_succ]
        refine held_call 29 (by kernel_rfl) rfl (by rfl) (fun K hK => ?_)
        go_simp
        have iq1 := Lib.hid (IntsAt.made p9 3 [3, 13, 14] 3 rfl (by omega) (f31314.out))
        have hb : Below p9.heap.size p9 (p9.alloc (.cells ([3, 13, 14].map (Value.int .i64)).toArray 3)) := (Below.refl _ _).alloc (Nat.le_refl _) _
        simp only [List.map_cons, List.map_nil] at iq1 hb
        obtain ⟨q1, hnew⟩ : ∃ wn, p9.alloc (.cells [Value.int .i64 3, Value.int .i64 13, Value.int .i64 14].toArray 3) = wn := ⟨_, rfl⟩
        rw [hnew] at iq1 hb ⊢
        clear hnew
        have bq1 := Lib.hid (bp9.out.trans (hb.mono bp9.out.size))
        have kq1 := Lib.hid hb
        clear hb
        refine hK.out _ _ (SK.out _ bq1.out) (fun hHeld => ?_)
        try simp only [Act.put, List.setIfInBounds_toArray, List.set_cons_zero, List.set_cons_succ]
        have isq1 := Lib.hid (ip9.out.kept kq1.out)
        refine held_call 30 (by kernel_rfl) rfl (by rfl) (fun K hK => ?_)
        go_simp
        refine (lawof_any (some ⟨p8.heap.size, 0, none⟩) 2 2 (some ⟨p9.heap.size, 0, none⟩) 3 3 [3, 13, 14] q1 iq1.out (by omega)).mono ?_
        rintro e q2 ⟨E3, f3, rfl, oq2, hb⟩
        have bq2 := Lib.hid (bq1.out.trans (hb.mono bq1.out.size))
        have cq2 := Lib.hid (row_ints oq2 (show 3 ≤ 9223372036854775807 by omega) (wholeF_fits _))
        have sq2 := Lib.hid (isq1.out.kept hb)
        clear hb oq2
        go_wp2_with fail
        refine hK.out _ _ (SK.out _ bq2.out) (fun hHeld => ?_)
        try simp only [Act.put, List.setIfInBounds_toArray, List.set_cons_zero, List.set_cons_succ]
        refine held_call 31 (by kernel_rfl) rfl (by rfl) (fun K hK => ?_)
        go_simp
        have hEQ := tequal_any G3 2 h3 [1, 3] G4 3 h4 (wholeF [3, 13, 14]) (some ⟨p8.heap.size, 0, none⟩) 2 2 [1, 3] E3 3 f3 (wholeF [3, 13, 14]) q2 (TG3.out.kept bq2.out) (TG4.out.kept bq2.out) sq2.out cq2.out
        rw [show sameT [1, 3] (wholeF [3, 13, 14]) [1, 3] (wholeF [3, 13, 14]) = true by simp [sameT, sameL]] at hEQ
        refine hEQ.mono ?_
        rintro e q3 ⟨rfl, hb⟩
        have bq3 := Lib.hid (bq2.out.trans (hb.mono bq2.out.size))
        clear hb hEQ
        go_wp2_with fail
        refine hK.out _ _ (SK.out _ bq3.out) (fun hHeld => ?_)
        try simp only [Act.put, List.setIfInBounds_toArray, List.set_cons_zero, List.set_cons_succ]
        refine held_take 32 (.bool true) rfl (by kernel_rfl) (by kernel_rfl) (by kernel_rfl) (fun _ _ _ h => h) (by rfl) (by intro w' hS; go_simp) (by assumption) ?_
        try simp only [Act.put, List.setIfInBounds_toArray, List.set_cons_zero, List.set_cons_succ]
        refine held_take 33 (.bool true) rfl (by kernel_rfl) (by kernel_rfl) (by kernel_rfl) (fun _ _ _ h => h) (by rfl) (by intro w' hS; go_simp) (by assumption) ?_
        try simp only [Act.put, List.setIfInBounds_toArray, List.set_cons_zero, List.set_cons_succ]
        refine wpAnyH_done (by kernel_rfl) ?_ _
        go_wp2_with fail
        go_ret
        exact ⟨rfl, yD.out.trans (bq3.out.mono yD.out.size)⟩
      · go_simp
        have ip9 := Lib.hid (IntsAt.made p8 3 [3, 13, 14] 3 rfl (by omega) (f31314.out))
        have hb : Below p8.heap.size p8 (p8.alloc (.cells ([3, 13, 14].map (Value.int .i64)).toArray 3)) := (Below.refl _ _).alloc (Nat.le_refl _) _
        simp only [List.map_cons, List.map_nil] at ip9 hb
        obtain ⟨p9, hnew⟩ : ∃ wn, p8.alloc (.cells [Value.int .i64 3, Value.int .i64 13, Value.int .i64 14].toArray 3) = wn := ⟨_, rfl⟩
        rw [hnew] at ip9 hb ⊢
        clear hnew
        have bp9 := Lib.hid (bp8.out.trans (hb.mono bp8.out.size))
        have kp9 := Lib.hid hb
        clear hb
        refine hK.out _ _ (SK.out _ bp9.out) (fun hHeld => ?_)
        try simp only [Act.put, List.setIfInBounds_toArray, List.set_cons_zero, List.set_cons_succ]
        refine held_call 28 (by kernel_rfl) rfl (by rfl) (fun K hK => ?_)
        go_simp
        have iq1 := Lib.hid (IntsAt.made p9 3 [1, 3] 2 rfl (by omega) (f13.out))
        have hb : Below p9.heap.size p9 (p9.alloc (.cells ([1, 3].map (Value.int .i64)).toArray 3)) := (Below.refl _ _).alloc (Nat.le_refl _) _
        simp only [List.map_cons, List.map_nil] at iq1 hb
        obtain ⟨q1, hnew⟩ : ∃ wn, p9.alloc (.cells [Value.int .i64 1, Value.int .i64 3].toArray 3) = wn := ⟨_, rfl⟩
        rw [hnew] at iq1 hb ⊢
        clear hnew
        have bq1 := Lib.hid (bp9.out.trans (hb.mono bp9.out.size))
        have kq1 := Lib.hid hb
        clear hb
        refine hK.out _ _ (SK.out _ bq1.out) (fun hHeld => ?_)
        try simp only [Act.put, List.setIfInBounds_toArray, List.set_cons_zero, List.set_cons_succ]
        have isq1 := Lib.hid (ip9.out.kept kq1.out)
        refine held_call 30 (by kernel_rfl) rfl (by rfl) (fun K hK => ?_)
        go_simp
        refine (lawof_any (some ⟨p9.heap.size, 0, none⟩) 2 2 (some ⟨p8.heap.size, 0, none⟩) 3 3 [3, 13, 14] q1 isq1.out (by omega)).mono ?_
        rintro e q2 ⟨E3, f3, rfl, oq2, hb⟩
        have bq2 := Lib.hid (bq1.out.trans (hb.mono bq1.out.size))
        have cq2 := Lib.hid (row_ints oq2 (show 3 ≤ 9223372036854775807 by omega) (wholeF_fits _))
        have sq2 := Lib.hid (iq1.out.kept hb)
        clear hb oq2
        go_wp2_with fail
        refine hK.out _ _ (SK.out _ bq2.out) (fun hHeld => ?_)
        try simp only [Act.put, List.setIfInBounds_toArray, List.set_cons_zero, List.set_cons_succ]
        refine held_call 31 (by kernel_rfl) rfl (by rfl) (fun K hK => ?_)
        go_simp
        have hEQ := tequal_any G3 2 h3 [1, 3] G4 3 h4 (wholeF [3, 13, 14]) (some ⟨p9.heap.size, 0, none⟩) 2 2 [1, 3] E3 3 f3 (wholeF [3, 13, 14]) q2 (TG3.out.kept bq2.out) (TG4.out.kept bq2.out) sq2.out cq2.out
        rw [show sameT [1, 3] (wholeF [3, 13, 14]) [1, 3] (wholeF [3, 13, 14]) = true by simp [sameT, sameL]] at hEQ
        refine hEQ.mono ?_
        rintro e q3 ⟨rfl, hb⟩
        have bq3 := Lib.hid (bq2.out.trans (hb.mono bq2.out.size))
        clear hb hEQ
        go_wp2_with fail
        refine hK.out _ _ (SK.out _ bq3.out) (fun hHeld => ?_)
        try simp only [Act.put, List.setIfInBounds_toArray, List.set_cons_zero, List.set_cons_succ]
        refine held_take 32 (.bool true) rfl (by kernel_rfl) (by kernel_rfl) (by kernel_rfl) (fun _ _ _ h => h) (by rfl) (by intro w' hS; go_simp) (by assumption) ?_
        try simp only [Act.put, List.setIfInBounds_toArray, List.set_cons_zero, List.set_cons_succ]
        refine held_take 33 (.bool true) rfl (by kernel_rfl) (by kernel_rfl) (by kernel_rfl) (fun _ _ _ h => h) (by rfl) (by intro w' hS; go_simp) (by assumption) ?_
        try simp only [Act.put, List.setIfInBounds_toArray, List.set_cons_zero, List.set_cons_succ]
        refine wpAnyH_done (by kernel_rfl) ?_ _
        go_wp2_with fail
        go_ret
        exact ⟨rfl, yD.out.trans (bq3.out.mono yD.out.size)⟩
end Go.Proofs.Ytapelgjnnccfoaa

