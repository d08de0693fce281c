/-
  The fixed answer of the statements of layer 6: the program gives it.
-/
import Derived.Test.YtlpecdfiagklpaaOf06
import Derived.Deep.DeepCutAuto
import Derived.Deep.CutBlock
namespace Go.Proofs.Ytlpecdfiagklpaa
open Go.RowKit
set_option linter.unusedVariables false
set_option linter.unusedSimpArgs false

set_option maxRecDepth 100000 in
set_option maxHeartbeats 4000000 in
theorem awake06_any (w : World) :
    Calls Try.prog 9 #[] w fun e w' => e = .returned (.bool true) ∧ Below w.heap.size w w' := by
  have v1 : Hid (fitT [2, 2] 4 [2] 2 [1, 2] 2 = true) := by show _ = _; decide +kernel
  have v2 : Hid (outT 2 [2] 2 = true) := by show _ = _; decide +kernel
  have v3 : Hid (fitT [2] 2 [2] 2 [1, 2] 2 = false) := by show _ = _; decide +kernel
  have v4 : Hid (goD 2 2 (wholeF [1, 2, 3, 4]) (wholeF [0, 1]) (wholeF [1, 1]) = wholeF [3, 8]) := by show _ = _; decide +kernel
  have v5 : Hid (backX 2 2 (wholeF [1, 2, 3, 4]) (wholeF [3, 8]) = wholeF [27, 38]) := by show _ = _; decide +kernel
  have fs : Hid (Fits [2, 2] ∧ Fits [2] ∧ Fits [1, 2] ∧ Fits [1, 2, 3, 4] ∧ Fits [0, 1] ∧ Fits [1, 1] ∧ Fits [3, 8] ∧ Fits [27, 38]) := by
    show _ ∧ _ ∧ _ ∧ _ ∧ _ ∧ _ ∧ _ ∧ _
    refine ⟨?_, ?_, ?_, ?_, ?_, ?_, ?_, ?_⟩ <;> exact fits_few (by decide +kernel)
  obtain ⟨w0, hw0, s0, c0, z0⟩ := rows_made5 w 3 3 [2, 2] [1, 2, 3, 4] 2 4 rfl rfl (by omega) (by omega) fs.out.1 fs.out.2.2.2.1
  go_enter Try.func9, Try.ntmps9
  go_wp2_with fail
  have hw0' := hw0.out
  simp only [List.map_cons, List.map_nil] at hw0'
  rw [hw0']
  clear hw0'
  refine (of6_any _ 2 2 _ 4 4 [1, 2, 3, 4] w0 c0.out (by omega)).mono ?_
  rintro e w1 ⟨A1, k1, rfl, o1, hb1⟩
  obtain ⟨g1, k1', hv⟩ := Joins.ownsRow_form o1 (by omega)
  simp only [Value.slice.injEq] at hv
  obtain ⟨rfl, -, rfl⟩ := hv
  have rm1 := row_room o1
  have TW := Lib.hid (show TV.At ⟨some ⟨w.heap.size, 0, none⟩, 2, 2, [2, 2], some ⟨g1, 0, none⟩, 4, k1, wholeF [1, 2, 3, 4]⟩ w1 from ⟨s0.out.kept hb1, row_ints o1 (show 4 ≤ 9223372036854775807 by omega) (wholeF_fits _), by simp, by simp⟩)
  have y1 := Lib.hid (z0.out.trans (hb1.mono z0.out.size))
  clear o1 hb1 s0 c0 z0 hw0
  obtain ⟨w2, hw2, s2, c2, z2⟩ := rows_made5 w1 3 3 [2] [0, 1] 1 2 rfl rfl (by omega) (by omega) fs.out.2.1 fs.out.2.2.2.2.1
  have hw2' := hw2.out
  simp only [List.map_cons, List.map_nil] at hw2'
  go_wp2_with fail
  clear hw2'
  refine (of6_any _ 1 1 _ 2 2 [0, 1] w2 c2.out (by omega)).mono ?_
  rintro e w3 ⟨A3, k3, rfl, o1, hb1⟩
  have TB := Lib.hid (show TV.At ⟨some ⟨w1.heap.size, 0, none⟩, 1, 1, [2], A3, 2, k3, wholeF [0, 1]⟩ w3 from ⟨s2.out.kept hb1, row_ints o1 (show 2 ≤ 9223372036854775807 by omega) (wholeF_fits _), by simp, by simp⟩)
  have y3 := Lib.hid (z2.out.trans (hb1.mono z2.out.size))
  clear o1 hb1 s2 c2 z2 hw2
  obtain ⟨w4, hw4, s4, c4, z4⟩ := rows_made5 w3 3 3 [1, 2] [1, 1] 2 2 rfl rfl (by omega) (by omega) fs.out.2.2.1 fs.out.2.2.2.2.2.1
  have hw4' := hw4.out
  simp only [List.map_cons, List.map_nil] at hw4'
  go_wp2_with fail
  clear hw4'
  refine (of6_any _ 2 2 _ 2 2 [1, 1] w4 c4.out (by omega)).mono ?_
  rintro e w5 ⟨A5, k5, rfl, o1, hb1⟩
  have Tx := Lib.hid (show TV.At ⟨some ⟨w3.heap.size, 0, none⟩, 2, 2, [1, 2], A5, 2, k5, wholeF [1, 1]⟩ w5 from ⟨s4.out.kept hb1, row_ints o1 (show 2 ≤ 9223372036854775807 by omega) (wholeF_fits _), by simp, by simp⟩)
  have y5 := Lib.hid (z4.out.trans (hb1.mono z4.out.size))
  clear o1 hb1 s4 c4 z4 hw4
  go_upto_region 2 with (fail)
  obtain ⟨u1, hu1, J1, x1, m1⟩ := grid_box w5 (.slice (some ⟨w.heap.size, 0, none⟩) 2 2) (.slice (some ⟨g1, 0, none⟩) 4 k1)
  obtain ⟨u2, hu2, J2, x2, m2⟩ := grid_box u1 (.slice (some ⟨w1.heap.size, 0, none⟩) 1 1) (.slice A3 2 k3)
  obtain ⟨u3, hu3, J3, x3, m3⟩ := grid_box u2 (.slice (some ⟨w3.heap.size, 0, none⟩) 2 2) (.slice A5 2 k5)
  rw [hu1.out, hu2.out, hu3.out]
  rw [m1.out] at J2
  rw [m2.out, m1.out] at J3
  have x12 := x1.out.trans (x2.out.mono x1.out.size)
  have x13 := Lib.hid (x12.trans (x3.out.mono x12.size))
  have y35 := y3.out.trans (y5.out.mono y3.out.size)
  have TW3 := Lib.hid (TW.out.kept (y35.trans (x13.out.mono y35.size)))
  have TB3 := Lib.hid (TB.out.kept (y5.out.trans (x13.out.mono y5.out.size)))
  have Tx3 := Lib.hid (Tx.out.kept x13.out)
  have y15 := y1.out.trans (y35.mono y1.out.size)
  have yA := Lib.hid (y15.trans (x13.out.mono y15.size))
  have K1 := Lib.hid ((J1.out.kept x2.out).kept x3.out)
  have K2 := Lib.hid (J2.out.kept x3.out)
  clear x12 y35 y15 TW TB Tx x1 x2 x3 x13 y1 y3 y5 J1 J2 hu1 hu2 hu3 m1 m2 m3
  obtain ⟨a0, a1, -, -⟩ := K1.out.see
  obtain ⟨b0, b1, -, -⟩ := K2.out.see
  obtain ⟨c0, c1, -, -⟩ := J3.out.see
  go_wp2_with fail
  clear a0 a1 b0 b1 c0 c1
  refine (dgo_ok ⟨some ⟨w.heap.size, 0, none⟩, 2, 2, [2, 2], some ⟨g1, 0, none⟩, 4, k1, wholeF [1, 2, 3, 4]⟩ ⟨some ⟨w1.heap.size, 0, none⟩, 1, 1, [2], A3, 2, k3, wholeF [0, 1]⟩ ⟨some ⟨w3.heap.size, 0, none⟩, 2, 2, [1, 2], A5, 2, k5, wholeF [1, 1]⟩ u3 TW3.out TB3.out Tx3.out rm1 v1.out (by show 2 ≤ 1000; omega)).mono ?_
  rintro e w6 ⟨v', rfl, C1, d1, C2, d2, rfl, o1, o2, -, hb6⟩
  have o2' : w6.ownsRow u3.heap.size 47 1 (.slice C2 2 d2) 2 ((wholeF [3, 8]).map (Value.int .i64)) := by rw [← v4.out]; exact o2
  have TY := Lib.hid (show TV.At ⟨C1, 1, d1, [2], C2, 2, d2, wholeF [3, 8]⟩ w6 from ⟨row_ints o1 (show 1 ≤ 9223372036854775807 by omega) fs.out.2.1, row_ints o2' (show 2 ≤ 9223372036854775807 by omega) (wholeF_fits _), by simp, by simp⟩)
  clear o1 o2 o2'
  obtain ⟨w7, hw7, JY, z7, n7⟩ := grid_box w6 (.slice C1 1 d1) (.slice C2 2 d2)
  have q7 := Lib.hid (hb6.trans (z7.out.mono hb6.size))
  have yB := Lib.hid (yA.out.trans (q7.out.mono yA.out.size))
  have TW7 := Lib.hid (TW3.out.kept q7.out)
  have TB7 := Lib.hid (TB3.out.kept q7.out)
  have Tx7 := Lib.hid (Tx3.out.kept q7.out)
  have TY7 := Lib.hid (TY.out.kept z7.out)
  have K1b := Lib.hid (K1.out.kept q7.out)
  have K2b := Lib.hid (K2.out.kept q7.out)
  have K3b := Lib.hid (J3.out.kept q7.out)
  clear hb6 q7 z7 yA TW3 TB3 Tx3 TY K1 K2 J3
  go_upto_region 3 with (fail)
  rw [hw7.out]
  obtain ⟨a0, a1, -, -⟩ := K1b.out.see
  obtain ⟨b0, b1, -, -⟩ := K2b.out.see
  obtain ⟨c0, c1, -, -⟩ := K3b.out.see
  obtain ⟨e0, e1, -, -⟩ := JY.out.see
  go_wp2_with fail
  clear a0 a1 b0 b1 c0 c1 e0 e1
  refine (dback_ok ⟨some ⟨w.heap.size, 0, none⟩, 2, 2, [2, 2], some ⟨g1, 0, none⟩, 4, k1, wholeF [1, 2, 3, 4]⟩ ⟨some ⟨w1.heap.size, 0, none⟩, 1, 1, [2], A3, 2, k3, wholeF [0, 1]⟩ ⟨some ⟨w3.heap.size, 0, none⟩, 2, 2, [1, 2], A5, 2, k5, wholeF [1, 1]⟩ ⟨C1, 1, d1, [2], C2, 2, d2, wholeF [3, 8]⟩ w7 TW7.out TB7.out Tx7.out TY7.out rm1 v1.out v2.out (by show 4 ≤ 1000; omega) (by show 2 ≤ 1000; omega) (by show 2 ≤ 1000; omega)).mono ?_
  rintro e w8 ⟨ga, gb, gc, rfl, hga, hgb, hgc, ⟨-, -⟩, ⟨e3, e4⟩, ⟨e5, e6⟩, hb8⟩
  have e6' : gc.cs = wholeF [27, 38] := by rw [e6, ← v5.out]
  obtain ⟨w9, hw9, JG, z9, n9⟩ := grads_box w8 (.slice ga.sa ga.sl ga.sc) (.slice ga.ca ga.cl ga.cc) (.slice gb.sa gb.sl gb.sc) (.slice gb.ca gb.cl gb.cc) (.slice gc.sa gc.sl gc.sc) (.slice gc.ca gc.cl gc.cc)
  have q9 := Lib.hid (hb8.trans (z9.out.mono hb8.size))
  have yC := Lib.hid (yB.out.trans (q9.out.mono yB.out.size))
  have TB9 := Lib.hid (TB7.out.kept q9.out)
  have Tx9 := Lib.hid (Tx7.out.kept q9.out)
  have TY9 := Lib.hid (TY7.out.kept q9.out)
  have TGb := Lib.hid (hgb.kept z9.out)
  have TGc := Lib.hid (hgc.kept z9.out)
  have K2c := Lib.hid (K2b.out.kept q9.out)
  have K3c := Lib.hid (K3b.out.kept q9.out)
  have KYc := Lib.hid (JY.out.kept q9.out)
  have Egb := Lib.hid (And.intro e3 e4)
  have Egc := Lib.hid (And.intro e5 e6')
  clear hb8 q9 z9 yB TW7 TB7 Tx7 TY7 K1b K2b K3b JY hga hgb hgc e3 e4 e5 e6 e6'
  go_upto_region 4 with (fail)
  rw [hw9.out]
  obtain ⟨b0, b1, -, -⟩ := K2c.out.see
  obtain ⟨c0, c1, -, -⟩ := K3c.out.see
  go_wp2_with fail
  clear b0 b1 c0 c1
  refine (dgo_no ⟨some ⟨w1.heap.size, 0, none⟩, 1, 1, [2], A3, 2, k3, wholeF [0, 1]⟩ ⟨some ⟨w1.heap.size, 0, none⟩, 1, 1, [2], A3, 2, k3, wholeF [0, 1]⟩ ⟨some ⟨w3.heap.size, 0, none⟩, 2, 2, [1, 2], A5, 2, k5, wholeF [1, 1]⟩ w9 TB9.out TB9.out Tx9.out v3.out).mono ?_
  rintro e wz ⟨rfl, hbz⟩
  obtain ⟨wv, hwv, -, zv, nv⟩ := grid_box wz (.slice none 0 0) (.slice none 0 0)
  have qv := Lib.hid (hbz.trans (zv.out.mono hbz.size))
  have yD := Lib.hid (yC.out.trans (qv.out.mono yC.out.size))
  have TYv := Lib.hid (TY9.out.kept qv.out)
  have TGbv := Lib.hid (TGb.out.kept qv.out)
  have TGcv := Lib.hid (TGc.out.kept qv.out)
  have KY := Lib.hid (KYc.out.kept qv.out)
  have KG := Lib.hid (JG.out.kept qv.out)
  clear hbz qv zv yC TB9 Tx9 TY9 TGb TGc K2c K3c KYc JG
  go_upto_region 5 with (fail)
  rw [hwv.out]
  have SK := Lib.hid (fun w' (hb : Below wv.heap.size wv w') => (show w'.cell? ⟨w6.heap.size, 0, none⟩ = some (.slice C1 1 d1) ∧ w'.cell? ⟨w6.heap.size, 1, none⟩ = some (.slice C2 2 d2) ∧ w'.cell? ⟨w8.heap.size, 2, none⟩ = some (.slice gb.sa gb.sl gb.sc) ∧ w'.cell? ⟨w8.heap.size, 3, none⟩ = some (.slice gb.ca gb.cl gb.cc) ∧ w'.cell? ⟨w8.heap.size, 4, none⟩ = some (.slice gc.sa gc.sl gc.sc) ∧ w'.cell? ⟨w8.heap.size, 5, none⟩ = some (.slice gc.ca gc.cl gc.cc) from ⟨(KY.out.kept hb).see.1, (KY.out.kept hb).see.2.1, (KG.out.kept hb).see.2.2.1, (KG.out.kept hb).see.2.2.2.1, (KG.out.kept hb).see.2.2.2.2.1, (KG.out.kept hb).see.2.2.2.2.2⟩))
  have t1 : Below wv.heap.size wv wv.drew := (Below.refl _ _).drew
  have SK1 := SK.out _ t1
  refine wp_region_held_drew (S := fun w' => w'.cell? ⟨w6.heap.size, 0, none⟩ = some (.slice C1 1 d1) ∧ w'.cell? ⟨w6.heap.size, 1, none⟩ = some (.slice C2 2 d2) ∧ w'.cell? ⟨w8.heap.size, 2, none⟩ = some (.slice gb.sa gb.sl gb.sc) ∧ w'.cell? ⟨w8.heap.size, 3, none⟩ = some (.slice gb.ca gb.cl gb.cc) ∧ w'.cell? ⟨w8.heap.size, 4, none⟩ = some (.slice gc.sa gc.sl gc.sc) ∧ w'.cell? ⟨w8.heap.size, 5, none⟩ = some (.slice gc.ca gc.cl gc.cc)) (by kernel_rfl) SK1 (fun hHeld => ?_)
  clear SK1 hHeld
  obtain ⟨wd, hwd⟩ : ∃ v, wv.drew = v := ⟨_, rfl⟩
  rw [hwd] at t1 ⊢
  have bwd := Lib.hid t1
  have hHeld := SK.out _ t1
  clear t1 hwd
  refine held_take 0 (.int .i64 0) rfl (by kernel_rfl) (by kernel_rfl) (by kernel_rfl) (fun _ _ _ h => h) (by rfl) (by intro w' hS; go_simp) (by assumption) ?_
  try simp only [Act.put, List.setIfInBounds_toArray, List.set_cons_zero, List.set_cons_succ]
  refine held_take 1 (.bool true) rfl (by kernel_rfl) (by kernel_rfl) (by kernel_rfl) (fun _ _ _ h => h) (by rfl) (by intro w' hS; go_simp) (by assumption) ?_
  try simp only [Act.put, List.setIfInBounds_toArray, List.set_cons_zero, List.set_cons_succ]
  refine held_take 2 (.bool true) rfl (by kernel_rfl) (by kernel_rfl) (by kernel_rfl) (fun _ _ _ h => h) (by rfl) (by intro w' hS; go_simp) (by assumption) ?_
  try simp only [Act.put, List.setIfInBounds_toArray, List.set_cons_zero, List.set_cons_succ]
  refine held_take 3 (.int .i64 0) rfl (by kernel_rfl) (by kernel_rfl) (by kernel_rfl) (fun _ _ _ h => h) (by rfl) (by intro w' hS; go_simp) (by assumption) ?_
  try simp only [Act.put, List.setIfInBounds_toArray, List.set_cons_zero, List.set_cons_succ]
  refine held_take 4 (.bool true) rfl (by kernel_rfl) (by kernel_rfl) (by kernel_rfl) (fun _ _ _ h => h) (by rfl) (by intro w' hS; go_simp) (by assumption) ?_
  try simp only [Act.put, List.setIfInBounds_toArray, List.set_cons_zero, List.set_cons_succ]
  refine held_take 5 (.bool true) rfl (by kernel_rfl) (by kernel_rfl) (by kernel_rfl) (fun _ _ _ h => h) (by rfl) (by intro w' hS; go_simp) (by assumption) ?_
  try simp only [Act.put, List.setIfInBounds_toArray, List.set_cons_zero, List.set_cons_succ]
  refine held_take 6 (.bool true) rfl (by kernel_rfl) (by kernel_rfl) (by kernel_rfl) (fun _ _ _ h => h) (by rfl) (by intro w' hS; go_simp) (by assumption) ?_
  try simp only [Act.put, List.setIfInBounds_toArray, List.set_cons_zero, List.set_cons_succ]
  refine held_take 7 (.int .i64 20) rfl (by kernel_rfl) (by kernel_rfl) (by kernel_rfl) (fun _ _ _ h => h) (by rfl) (by intro w' hS; go_simp) (by assumption) ?_
  try simp only [Act.put, List.setIfInBounds_toArray, List.set_cons_zero, List.set_cons_succ]
  refine held_take 8 (.bool true) rfl (by kernel_rfl) (by kernel_rfl) (by kernel_rfl) (fun _ _ _ h => h) (by rfl) (by intro w' hS; go_simp) (by assumption) ?_
  try simp only [Act.put, List.setIfInBounds_toArray, List.set_cons_zero, List.set_cons_succ]
  refine held_take 9 (.bool true) rfl (by kernel_rfl) (by kernel_rfl) (by kernel_rfl) (fun _ _ _ h => h) (by rfl) (by intro w' hS; go_simp) (by assumption) ?_
  try simp only [Act.put, List.setIfInBounds_toArray, List.set_cons_zero, List.set_cons_succ]
  refine held_take 10 (.bool true) rfl (by kernel_rfl) (by kernel_rfl) (by kernel_rfl) (fun _ _ _ h => h) (by rfl) (by intro w' hS; go_simp) (by assumption) ?_
  try simp only [Act.put, List.setIfInBounds_toArray, List.set_cons_zero, List.set_cons_succ]
  refine held_take 11 (.agg #[.slice C1 1 d1, .slice C2 2 d2]) rfl (by kernel_rfl) (by kernel_rfl) (by kernel_rfl) (fun _ _ _ h => h) (by rfl) (by intro w' hS; go_simp) (by assumption) ?_
  try simp only [Act.put, List.setIfInBounds_toArray, List.set_cons_zero, List.set_cons_succ]
  refine held_two 12 13 (by kernel_rfl) rfl rfl (by rfl) (by rfl) (fun K hK => ?_) (fun K hK => ?_)
  · go_simp
    have ip1 := Lib.hid (IntsAt.made wd 3 [2] 1 rfl (by omega) (fs.out.2.1))
    have hb : Below wd.heap.size wd (wd.alloc (.cells ([2].map (Value.int .i64)).toArray 3)) := (Below.refl _ _).alloc (Nat.le_refl _) _
    simp only [List.map_cons, List.map_nil] at ip1 hb
    obtain ⟨p1, hnew⟩ : ∃ wn, wd.alloc (.cells [Value.int .i64 2].toArray 3) = wn := ⟨_, rfl⟩
    rw [hnew] at ip1 hb ⊢
    clear hnew
    have bp1 := Lib.hid (bwd.out.trans (hb.mono bwd.out.size))
    have kp1 := Lib.hid hb
    clear hb
    refine hK.out _ _ (SK.out _ bp1.out) (fun hHeld => ?_)
    try simp only [Act.put, List.setIfInBounds_toArray, List.set_cons_zero, List.set_cons_succ]
    refine held_call 13 (by kernel_rfl) rfl (by rfl) (fun K hK => ?_)
    go_simp
    have ip2 := Lib.hid (IntsAt.made p1 3 [3, 8] 2 rfl (by omega) (fs.out.2.2.2.2.2.2.1))
    have hb : Below p1.heap.size p1 (p1.alloc (.cells ([3, 8].map (Value.int .i64)).toArray 3)) := (Below.refl _ _).alloc (Nat.le_refl _) _
    simp only [List.map_cons, List.map_nil] at ip2 hb
    obtain ⟨p2, hnew⟩ : ∃ wn, p1.alloc (.cells [Value.int .i64 3, Value.int .i64 8].toArray 3) = wn := ⟨_, rfl⟩
    rw [hnew] at ip2 hb ⊢
    clear hnew
    have bp2 := Lib.hid (bp1.out.trans (hb.mono bp1.out.size))
    have kp2 := Lib.hid hb
    clear hb
    refine hK.out _ _ (SK.out _ bp2.out) (fun hHeld => ?_)
    try simp only [Act.put, List.setIfInBounds_toArray, List.set_cons_zero, List.set_cons_succ]
    have isp2 := Lib.hid (ip1.out.kept kp2.out)
    refine held_call 14 (by kernel_rfl) rfl (by rfl) (fun K hK => ?_)
    go_simp
    refine (of6_any (some ⟨wd.heap.size, 0, none⟩) 1 1 (some ⟨p1.heap.size, 0, none⟩) 2 2 [3, 8] p2 ip2.out (by omega)).mono ?_
    rintro e p3 ⟨E1, f1, rfl, op3, hb⟩
    have bp3 := Lib.hid (bp2.out.trans (hb.mono bp2.out.size))
    have cp3 := Lib.hid (row_ints op3 (show 2 ≤ 9223372036854775807 by omega) (wholeF_fits _))
    have sp3 := Lib.hid (isp2.out.kept hb)
    clear hb op3
    go_wp2_with fail
    refine hK.out _ _ (SK.out _ bp3.out) (fun hHeld => ?_)
    try simp only [Act.put, List.setIfInBounds_toArray, List.set_cons_zero, List.set_cons_succ]
    refine held_call 15 (by kernel_rfl) rfl (by rfl) (fun K hK => ?_)
    go_simp
    have hEQ := tequal_any C1 1 d1 [2] C2 2 d2 (wholeF [3, 8]) (some ⟨wd.heap.size, 0, none⟩) 1 1 [2] E1 2 f1 (wholeF [3, 8]) p3 (TYv.out.kept bp3.out).1 (TYv.out.kept bp3.out).2.1 sp3.out cp3.out
    rw [show sameT [2] (wholeF [3, 8]) [2] (wholeF [3, 8]) = true by simp [sameT, sameL]] at hEQ
    refine hEQ.mono ?_
    rintro e p4 ⟨rfl, hb⟩
    have bp4 := Lib.hid (bp3.out.trans (hb.mono bp3.out.size))
    clear hb hEQ
    go_wp2_with fail
    refine hK.out _ _ (SK.out _ bp4.out) (fun hHeld => ?_)
    try simp only [Act.put, List.setIfInBounds_toArray, List.set_cons_zero, List.set_cons_succ]
    refine held_take 16 (.bool true) rfl (by kernel_rfl) (by kernel_rfl) (by kernel_rfl) (fun _ _ _ h => h) (by rfl) (by intro w' hS; go_simp) (by assumption) ?_
    try simp only [Act.put, List.setIfInBounds_toArray, List.set_cons_zero, List.set_cons_succ]
    refine held_take 17 (.bool true) rfl (by kernel_rfl) (by kernel_rfl) (by kernel_rfl) (fun _ _ _ h => h) (by rfl) (by intro w' hS; go_simp) (by assumption) ?_
    try simp only [Act.put, List.setIfInBounds_toArray, List.set_cons_zero, List.set_cons_succ]
    refine held_take 18 (.pointer (some ⟨w8.heap.size, 4, none⟩)) rfl (by kernel_rfl) (by kernel_rfl) (by kernel_rfl) (fun _ _ _ h => h) (by rfl) (by intro w' hS; go_simp) (by assumption) ?_
    try simp only [Act.put, List.setIfInBounds_toArray, List.set_cons_zero, List.set_cons_succ]
    refine held_take 19 (.agg #[.slice gc.sa gc.sl gc.sc, .slice gc.ca gc.cl gc.cc]) rfl (by kernel_rfl) (by kernel_rfl) (by kernel_rfl) (fun _ _ _ h => h) (by rfl) (by intro w' hS; go_simp) (by assumption) ?_
    try simp only [Act.put, List.setIfInBounds_toArray, List.set_cons_zero, List.set_cons_succ]
    refine held_two 20 21 (by kernel_rfl) rfl rfl (by rfl) (by rfl) (fun K hK => ?_) (fun K hK => ?_)
    · go_simp
      have ip5 := Lib.hid (IntsAt.made p4 3 [1, 2] 2 rfl (by omega) (fs.out.2.2.1))
      have hb : Below p4.heap.size p4 (p4.alloc (.cells ([1, 2].map (Value.int .i64)).toArray 3)) := (Below.refl _ _).alloc (Nat.le_refl _) _
      simp only [List.map_cons, List.map_nil] at ip5 hb
      obtain ⟨p5, hnew⟩ : ∃ wn, p4.alloc (.cells [Value.int .i64 1, Value.int .i64 2].toArray 3) = wn := ⟨_, rfl⟩
      rw [hnew] at ip5 hb ⊢
      clear hnew
      have bp5 := Lib.hid (bp4.out.trans (hb.mono bp4.out.size))
      have kp5 := Lib.hid hb
      clear hb
      refine hK.out _ _ (SK.out _ bp5.out) (fun hHeld => ?_)
      try simp only [Act.put, List.setIfInBounds_toArray, List.set_cons_zero, List.set_cons_succ]
      refine held_call 21 (by kernel_rfl) rfl (by rfl) (fun K hK => ?_)
      go_simp
      have ip6 := Lib.hid (IntsAt.made p5 3 [27, 38] 2 rfl (by omega) (fs.out.2.2.2.2.2.2.2))
      have hb : Below p5.heap.size p5 (p5.alloc (.cells ([27, 38].map (Value.int .i64)).toArray 3)) := (Below.refl _ _).alloc (Nat.le_refl _) _
      simp only [List.map_cons, List.map_nil] at ip6 hb
      obtain ⟨p6, hnew⟩ : ∃ wn, p5.alloc (.cells [Value.int .i64 27, Value.int .i64 38].toArray 3) = wn := ⟨_, rfl⟩
      rw [hnew] at ip6 hb ⊢
      clear hnew
      have bp6 := Lib.hid (bp5.out.trans (hb.mono bp5.out.size))
      have kp6 := Lib.hid hb
      clear hb
      refine hK.out _ _ (SK.out _ bp6.out) (fun hHeld => ?_)
      try simp only [Act.put, List.setIfInBounds_toArray, List.set_cons_zero, List.set_cons_succ]
      have isp6 := Lib.hid (ip5.out.kept kp6.out)
      refine held_call 22 (by kernel_rfl) rfl (by rfl) (fun K hK => ?_)
      go_simp
      refine (of6_any (some ⟨p4.heap.size, 0, none⟩) 2 2 (some ⟨p5.heap.size, 0, none⟩) 2 2 [27, 38] p6 ip6.out (by omega)).mono ?_
      rintro e p7 ⟨E2, f2, rfl, op7, hb⟩
      have bp7 := Lib.hid (bp6.out.trans (hb.mono bp6.out.size))
      have cp7 := Lib.hid (row_ints op7 (show 2 ≤ 9223372036854775807 by omega) (wholeF_fits _))
      have sp7 := Lib.hid (isp6.out.kept hb)
      clear hb op7
      go_wp2_with fail
      refine hK.out _ _ (SK.out _ bp7.out) (fun hHeld => ?_)
      try simp only [Act.put, List.setIfInBounds_toArray, List.set_cons_zero, List.set_cons_succ]
      refine held_call 23 (by kernel_rfl) rfl (by rfl) (fun K hK => ?_)
      go_simp
      have hEQ := tequal_any gc.sa gc.sl gc.sc gc.ss gc.ca gc.cl gc.cc gc.cs (some ⟨p4.heap.size, 0, none⟩) 2 2 [1, 2] E2 2 f2 (wholeF [27, 38]) p7 (TGcv.out.kept bp7.out).1 (TGcv.out.kept bp7.out).2.1 sp7.out cp7.out
      rw [show sameT gc.ss gc.cs [1, 2] (wholeF [27, 38]) = true by rw [Egc.out.1, Egc.out.2]; simp [sameT, sameL]] at hEQ
      refine hEQ.mono ?_
      rintro e p8 ⟨rfl, hb⟩
      have bp8 := Lib.hid (bp7.out.trans (hb.mono bp7.out.size))
      clear hb hEQ
      go_wp2_with fail
      refine hK.out _ _ (SK.out _ bp8.out) (fun hHeld => ?_)
      try simp only [Act.put, List.setIfInBounds_toArray, List.set_cons_zero, List.set_cons_succ]
      refine held_take 24 (.bool true) rfl (by kernel_rfl) (by kernel_rfl) (by kernel_rfl) (fun _ _ _ h => h) (by rfl) (by intro w' hS; go_simp) (by assumption) ?_
      try simp only [Act.put, List.setIfInBounds_toArray, List.set_cons_zero, List.set_cons_succ]
      refine held_take 25 (.bool true) rfl (by kernel_rfl) (by kernel_rfl) (by kernel_rfl) (fun _ _ _ h => h) (by rfl) (by intro w' hS; go_simp) (by assumption) ?_
      try simp only [Act.put, List.setIfInBounds_toArray, List.set_cons_zero, List.set_cons_succ]
      refine held_take 26 (.pointer (some ⟨w8.heap.size, 2, none⟩)) rfl (by kernel_rfl) (by kernel_rfl) (by kernel_rfl) (fun _ _ _ h => h) (by rfl) (by intro w' hS; go_simp) (by assumption) ?_
      try simp only [Act.put, List.setIfInBounds_toArray, List.set_cons_zero, List.set_cons_succ]
      refine held_take 27 (.agg #[.slice gb.sa gb.sl gb.sc, .slice gb.ca gb.cl gb.cc]) rfl (by kernel_rfl) (by kernel_rfl) (by kernel_rfl) (fun _ _ _ h => h) (by rfl) (by intro w' hS; go_simp) (by assumption) ?_
      try simp only [Act.put, List.setIfInBounds_toArray, List.set_cons_zero, List.set_cons_succ]
      refine held_take 28 (.agg #[.slice C1 1 d1, .slice C2 2 d2]) rfl (by kernel_rfl) (by kernel_rfl) (by kernel_rfl) (fun _ _ _ h => h) (by rfl) (by intro w' hS; go_simp) (by assumption) ?_
      try simp only [Act.put, List.setIfInBounds_toArray, List.set_cons_zero, List.set_cons_succ]
      refine held_call 29 (by kernel_rfl) rfl (by rfl) (fun K hK => ?_)
      go_simp
      have hEQ := tequal_any gb.sa gb.sl gb.sc gb.ss gb.ca gb.cl gb.cc gb.cs C1 1 d1 [2] C2 2 d2 (wholeF [3, 8]) p8 (TGbv.out.kept bp8.out).1 (TGbv.out.kept bp8.out).2.1 (TYv.out.kept bp8.out).1 (TYv.out.kept bp8.out).2.1
      rw [show sameT gb.ss gb.cs [2] (wholeF [3, 8]) = true by rw [Egb.out.1, Egb.out.2]; simp [sameT, sameL]] at hEQ
      refine hEQ.mono ?_
      rintro e p9 ⟨rfl, hb⟩
      have bp9 := Lib.hid (bp8.out.trans (hb.mono bp8.out.size))
      clear hb hEQ
      go_wp2_with fail
      refine hK.out _ _ (SK.out _ bp9.out) (fun hHeld => ?_)
      try simp only [Act.put, List.setIfInBounds_toArray, List.set_cons_zero, List.set_cons_succ]
      refine held_take 30 (.bool true) rfl (by kernel_rfl) (by kernel_rfl) (by kernel_rfl) (fun _ _ _ h => h) (by rfl) (by intro w' hS; go_simp) (by assumption) ?_
      try simp only [Act.put, List.setIfInBounds_toArray, List.set_cons_zero, List.set_cons_succ]
      refine held_take 31 (.bool true) rfl (by kernel_rfl) (by kernel_rfl) (by kernel_rfl) (fun _ _ _ h => h) (by rfl) (by intro w' hS; go_simp) (by assumption) ?_
      try simp only [Act.put, List.setIfInBounds_toArray, List.set_cons_zero, List.set_cons_succ]
      refine wpAnyH_done (by kernel_rfl) ?_ _
      go_wp2_with fail
      go_ret
      exact ⟨rfl, yD.out.trans (bp9.out.mono yD.out.size)⟩
    · go_simp
      have ip5 := Lib.hid (IntsAt.made p4 3 [27, 38] 2 rfl (by omega) (fs.out.2.2.2.2.2.2.2))
      have hb : Below p4.heap.size p4 (p4.alloc (.cells ([27, 38].map (Value.int .i64)).toArray 3)) := (Below.refl _ _).alloc (Nat.le_refl _) _
      simp only [List.map_cons, List.map_nil] at ip5 hb
      obtain ⟨p5, hnew⟩ : ∃ wn, p4.alloc (.cells [Value.int .i64 27, Value.int .i64 38].toArray 3) = wn := ⟨_, rfl⟩
      rw [hnew] at ip5 hb ⊢
      clear hnew
      have bp5 := Lib.hid (bp4.out.trans (hb.mono bp4.out.size))
      have kp5 := Lib.hid hb
      clear hb
      refine hK.out _ _ (SK.out _ bp5.out) (fun hHeld => ?_)
      try simp only [Act.put, List.setIfInBounds_toArray, List.set_cons_zero, List.set_cons_succ]
      refine held_call 20 (by kernel_rfl) rfl (by rfl) (fun K hK => ?_)
      go_simp
      have ip6 := Lib.hid (IntsAt.made p5 3 [1, 2] 2 rfl (by omega) (fs.out.2.2.1))
      have hb : Below p5.heap.size p5 (p5.alloc (.cells ([1, 2].map (Value.int .i64)).toArray 3)) := (Below.refl _ _).alloc (Nat.le_refl _) _
      simp only [List.map_cons, List.map_nil] at ip6 hb
      obtain ⟨p6, hnew⟩ : ∃ wn, p5.alloc (.cells [Value.int .i64 1, Value.int .i64 2].toArray 3) = wn := ⟨_, rfl⟩
      rw [hnew] at ip6 hb ⊢
      clear hnew
      have bp6 := Lib.hid (bp5.out.trans (hb.mono bp5.out.size))
      have kp6 := Lib.hid hb
      clear hb
      refine hK.out _ _ (SK.out _ bp6.out) (fun hHeld => ?_)
      try simp only [Act.put, List.setIfInBounds_toArray, List.set_cons_zero, List.set_cons_succ]
      have isp6 := Lib.hid (ip5.out.kept kp6.out)
      refine held_call 22 (by kernel_rfl) rfl (by rfl) (fun K hK => ?_)
      go_simp
      refine (of6_any (some ⟨p5.heap.size, 0, none⟩) 2 2 (some ⟨p4.heap.size, 0, none⟩) 2 2 [27, 38] p6 isp6.out (by omega)).mono ?_
      rintro e p7 ⟨E2, f2, rfl, op7, hb⟩
      have bp7 := Lib.hid (bp6.out.trans (hb.mono bp6.out.size))
      have cp7 := Lib.hid (row_ints op7 (show 2 ≤ 9223372036854775807 by omega) (wholeF_fits _))
      have sp7 := Lib.hid (ip6.out.kept hb)
      clear hb op7
      go_wp2_with fail
      refine hK.out _ _ (SK.out _ bp7.out) (fun hHeld => ?_)
      try simp only [Act.put, List.setIfInBounds_toArray, List.set_cons_zero, List.set_cons_succ]
      refine held_call 23 (by kernel_rfl) rfl (by rfl) (fun K hK => ?_)
      go_simp
      have hEQ := tequal_any gc.sa gc.sl gc.sc gc.ss gc.ca gc.cl gc.cc gc.cs (some ⟨p5.heap.size, 0, none⟩) 2 2 [1, 2] E2 2 f2 (wholeF [27, 38]) p7 (TGcv.out.kept bp7.out).1 (TGcv.out.kept bp7.out).2.1 sp7.out cp7.out
      rw [show sameT gc.ss gc.cs [1, 2] (wholeF [27, 38]) = true by rw [Egc.out.1, Egc.out.2]; simp [sameT, sameL]] at hEQ
      refine hEQ.mono ?_
      rintro e p8 ⟨rfl, hb⟩
      have bp8 := Lib.hid (bp7.out.trans (hb.mono bp7.out.size))
      clear hb hEQ
      go_wp2_with fail
      refine hK.out _ _ (SK.out _ bp8.out) (fun hHeld => ?_)
      try simp only [Act.put, List.setIfInBounds_toArray, List.set_cons_zero, List.set_cons_succ]
      refine held_take 24 (.bool true) rfl (by kernel_rfl) (by kernel_rfl) (by kernel_rfl) (fun _ _ _ h => h) (by rfl) (by intro w' hS; go_simp) (by assumption) ?_
      try simp only [Act.put, List.setIfInBounds_toArray, List.set_cons_zero, List.set_cons_succ]
      refine held_take 25 (.bool true) rfl (by kernel_rfl) (by kernel_rfl) (by kernel_rfl) (fun _ _ _ h => h) (by rfl) (by intro w' hS; go_simp) (by assumption) ?_
      try simp only [Act.put, List.setIfInBounds_toArray, List.set_cons_zero, List.set_cons_succ]
      refine held_take 26 (.pointer (some ⟨w8.heap.size, 2, none⟩)) rfl (by kernel_rfl) (by kernel_rfl) (by kernel_rfl) (fun _ _ _ h => h) (by rfl) (by intro w' hS; go_simp) (by assumption) ?_
      try simp only [Act.put, List.setIfInBounds_toArray, List.set_cons_zero, List.set_cons_succ]
      refine held_take 27 (.agg #[.slice gb.sa gb.sl gb.sc, .slice gb.ca gb.cl gb.cc]) rfl (by kernel_rfl) (by kernel_rfl) (by kernel_rfl) (fun _ _ _ h => h) (by rfl) (by intro w' hS; go_simp) (by assumption) ?_
      try simp only [Act.put, List.setIfInBounds_toArray, List.set_cons_zero, List.set_cons_succ]
      refine held_take 28 (.agg #[.slice C1 1 d1, .slice C2 2 d2]) rfl (by kernel_rfl) (by kernel_rfl) (by kernel_rfl) (fun _ _ _ h => h) (by rfl) (by intro w' hS; go_simp) (by assumption) ?_
      try simp only [Act.put, List.setIfInBounds_toArray, List.set_cons_zero, List.set_cons_succ]
      refine held_call 29 (by kernel_rfl) rfl (by rfl) (fun K hK => ?_)
      go_simp
      have hEQ := tequal_any gb.sa gb.sl gb.sc gb.ss gb.ca gb.cl gb.cc gb.cs C1 1 d1 [2] C2 2 d2 (wholeF [3, 8]) p8 (TGbv.out.kept bp8.out).1 (TGbv.out.kept bp8.out).2.1 (TYv.out.kept bp8.out).1 (TYv.out.kept bp8.out).2.1
      rw [show sameT gb.ss gb.cs [2] (wholeF [3, 8]) = true by rw [Egb.out.1, Egb.out.2]; simp [sameT, sameL]] at hEQ
      refine hEQ.mono ?_
      rintro e p9 ⟨rfl, hb⟩
      have bp9 := Lib.hid (bp8.out.trans (hb.mono bp8.out.size))
      clear hb hEQ
      go_wp2_with fail
      refine hK.out _ _ (SK.out _ bp9.out) (fun hHeld => ?_)
      try simp only [Act.put, List.setIfInBounds_toArray, List.set_cons_zero, List.set_cons_succ]
      refine held_take 30 (.bool true) rfl (by kernel_rfl) (by kernel_rfl) (by kernel_rfl) (fun _ _ _ h => h) (by rfl) (by intro w' hS; go_simp) (by assumption) ?_
      try simp only [Act.put, List.setIfInBounds_toArray, List.set_cons_zero, List.set_cons_succ]
      refine held_take 31 (.bool true) rfl (by kernel_rfl) (by kernel_rfl) (by kernel_rfl) (fun _ _ _ h => h) (by rfl) (by intro w' hS; go_simp) (by assumption) ?_
      try simp only [Act.put, List.setIfInBounds_toArray, List.set_cons_zero, List.set_cons_succ]
      refine wpAnyH_done (by kernel_rfl) ?_ _
      go_wp2_with fail
      go_ret
      exact ⟨rfl, yD.out.trans (bp9.out.mono yD.out.size)⟩
  · go_simp
    have ip1 := Lib.hid (IntsAt.made wd 3 [3, 8] 2 rfl (by omega) (fs.out.2.2.2.2.2.2.1))
    have hb : Below wd.heap.size wd (wd.alloc (.cells ([3, 8].map (Value.int .i64)).toArray 3)) := (Below.refl _ _).alloc (Nat.le_refl _) _
    simp only [List.map_cons, List.map_nil] at ip1 hb
    obtain ⟨p1, hnew⟩ : ∃ wn, wd.alloc (.cells [Value.int .i64 3, Value.int .i64 8].toArray 3) = wn := ⟨_, rfl⟩
    rw [hnew] at ip1 hb ⊢
    clear hnew
    have bp1 := Lib.hid (bwd.out.trans (hb.mono bwd.out.size))
    have kp1 := Lib.hid hb
    clear hb
    refine hK.out _ _ (SK.out _ bp1.out) (fun hHeld => ?_)
    try simp only [Act.put, List.setIfInBounds_toArray, List.set_cons_zero, List.set_cons_succ]
    refine held_call 12 (by kernel_rfl) rfl (by rfl) (fun K hK => ?_)
    go_simp
    have ip2 := Lib.hid (IntsAt.made p1 3 [2] 1 rfl (by omega) (fs.out.2.1))
    have hb : Below p1.heap.size p1 (p1.alloc (.cells ([2].map (Value.int .i64)).toArray 3)) := (Below.refl _ _).alloc (Nat.le_refl _) _
    simp only [List.map_cons, List.map_nil] at ip2 hb
    obtain ⟨p2, hnew⟩ : ∃ wn, p1.alloc (.cells [Value.int .i64 2].toArray 3) = wn := ⟨_, rfl⟩
    rw [hnew] at ip2 hb ⊢
    clear hnew
    have bp2 := Lib.hid (bp1.out.trans (hb.mono bp1.out.size))
    have kp2 := Lib.hid hb
    clear hb
    refine hK.out _ _ (SK.out _ bp2.out) (fun hHeld => ?_)
    try simp only [Act.put, List.setIfInBounds_toArray, List.set_cons_zero, List.set_cons_succ]
    have isp2 := Lib.hid (ip1.out.kept kp2.out)
    refine held_call 14 (by kernel_rfl) rfl (by rfl) (fun K hK => ?_)
    go_simp
    refine (of6_any (some ⟨p1.heap.size, 0, none⟩) 1 1 (some ⟨wd.heap.size, 0, none⟩) 2 2 [3, 8] p2 isp2.out (by omega)).mono ?_
    rintro e p3 ⟨E1, f1, rfl, op3, hb⟩
    have bp3 := Lib.hid (bp2.out.trans (hb.mono bp2.out.size))
    have cp3 := Lib.hid (row_ints op3 (show 2 ≤ 9223372036854775807 by omega) (wholeF_fits _))
    have sp3 := Lib.hid (ip2.out.kept hb)
    clear hb op3
    go_wp2_with fail
    refine hK.out _ _ (SK.out _ bp3.out) (fun hHeld => ?_)
    try simp only [Act.put, List.setIfInBounds_toArray, List.set_cons_zero, List.set_cons_succ]
    refine held_call 15 (by kernel_rfl) rfl (by rfl) (fun K hK => ?_)
    go_simp
    have hEQ := tequal_any C1 1 d1 [2] C2 2 d2 (wholeF [3, 8]) (some ⟨p1.heap.size, 0, none⟩) 1 1 [2] E1 2 f1 (wholeF [3, 8]) p3 (TYv.out.kept bp3.out).1 (TYv.out.kept bp3.out).2.1 sp3.out cp3.out
    rw [show sameT [2] (wholeF [3, 8]) [2] (wholeF [3, 8]) = true by simp [sameT, sameL]] at hEQ
    refine hEQ.mono ?_
    rintro e p4 ⟨rfl, hb⟩
    have bp4 := Lib.hid (bp3.out.trans (hb.mono bp3.out.size))
    clear hb hEQ
    go_wp2_with fail
    refine hK.out _ _ (SK.out _ bp4.out) (fun hHeld => ?_)
    try simp only [Act.put, List.setIfInBounds_toArray, List.set_cons_zero, List.set_cons_succ]
    refine held_take 16 (.bool true) rfl (by kernel_rfl) (by kernel_rfl) (by kernel_rfl) (fun _ _ _ h => h) (by rfl) (by intro w' hS; go_simp) (by assumption) ?_
    try simp only [Act.put, List.setIfInBounds_toArray, List.set_cons_zero, List.set_cons_succ]
    refine held_take 17 (.bool true) rfl (by kernel_rfl) (by kernel_rfl) (by kernel_rfl) (fun _ _ _ h => h) (by rfl) (by intro w' hS; go_simp) (by assumption) ?_
    try simp only [Act.put, List.setIfInBounds_toArray, List.set_cons_zero, List.set_cons_succ]
    refine held_take 18 (.pointer (some ⟨w8.heap.size, 4, none⟩)) rfl (by kernel_rfl) (by kernel_rfl) (by kernel_rfl) (fun _ _ _ h => h) (by rfl) (by intro w' hS; go_simp) (by assumption) ?_
    try simp only [Act.put, List.setIfInBounds_toArray, List.set_cons_zero, List.set_cons_succ]
    refine held_take 19 (.agg #[.slice gc.sa gc.sl gc.sc, .slice gc.ca gc.cl gc.cc]) rfl (by kernel_rfl) (by kernel_rfl) (by kernel_rfl) (fun _ _ _ h => h) (by rfl) (by intro w' hS; go_simp) (by assumption) ?_
    try simp only [Act.put, List.setIfInBounds_toArray, List.set_cons_zero, List.set_cons_succ]
    refine held_two 20 21 (by kernel_rfl) rfl rfl (by rfl) (by rfl) (fun K hK => ?_) (fun K hK => ?_)
    · go_simp
      have ip5 := Lib.hid (IntsAt.made p4 3 [1, 2] 2 rfl (by omega) (fs.out.2.2.1))
      have hb : Below p4.heap.size p4 (p4.alloc (.cells ([1, 2].map (Value.int .i64)).toArray 3)) := (Below.refl _ _).alloc (Nat.le_refl _) _
      simp only [List.map_cons, List.map_nil] at ip5 hb
      obtain ⟨p5, hnew⟩ : ∃ wn, p4.alloc (.cells [Value.int .i64 1, Value.int .i64 2].toArray 3) = wn := ⟨_, rfl⟩
      rw [hnew] at ip5 hb ⊢
      clear hnew
      have bp5 := Lib.hid (bp4.out.trans (hb.mono bp4.out.size))
      have kp5 := Lib.hid hb
      clear hb
      refine hK.out _ _ (SK.out _ bp5.out) (fun hHeld => ?_)
      try simp only [Act.put, List.setIfInBounds_toArray, List.set_cons_zero, List.set_cons_succ]
      refine held_call 21 (by kernel_rfl) rfl (by rfl) (fun K hK => ?_)
      go_simp
      have ip6 := Lib.hid (IntsAt.made p5 3 [27, 38] 2 rfl (by omega) (fs.out.2.2.2.2.2.2.2))
      have hb : Below p5.heap.size p5 (p5.alloc (.cells ([27, 38].map (Value.int .i64)).toArray 3)) := (Below.refl _ _).alloc (Nat.le_refl _) _
      simp only [List.map_cons, List.map_nil] at ip6 hb
      obtain ⟨p6, hnew⟩ : ∃ wn, p5.alloc (.cells [Value.int .i64 27, Value.int .i64 38].toArray 3) = wn := ⟨_, rfl⟩
      rw [hnew] at ip6 hb ⊢
      clear hnew
      have bp6 := Lib.hid (bp5.out.trans (hb.mono bp5.out.size))
      have kp6 := Lib.hid hb
      clear hb
      refine hK.out _ _ (SK.out _ bp6.out) (fun hHeld => ?_)
      try simp only [Act.put, List.setIfInBounds_toArray, List.set_cons_zero, List.set_cons_succ]
      have isp6 := Lib.hid (ip5.out.kept kp6.out)
      refine held_call 22 (by kernel_rfl) rfl (by rfl) (fun K hK => ?_)
      go_simp
      refine (of6_any (some ⟨p4.heap.size, 0, none⟩) 2 2 (some ⟨p5.heap.size, 0, none⟩) 2 2 [27, 38] p6 ip6.out (by omega)).mono ?_
      rintro e p7 ⟨E2, f2, rfl, op7, hb⟩
      have bp7 := Lib.hid (bp6.out.trans (hb.mono bp6.out.size))
      have cp7 := Lib.hid (row_ints op7 (show 2 ≤ 9223372036854775807 by omega) (wholeF_fits _))
      have sp7 := Lib.hid (isp6.out.kept hb)
      clear hb op7
      go_wp2_with fail
      refine hK.out _ _ (SK.out _ bp7.out) (fun hHeld => ?_)
      try simp only [Act.put, List.setIfInBounds_toArray, List.set_cons_zero, List.set_cons_succ]
      refine held_call 23 (by kernel_rfl) rfl (by rfl) (fun K hK => ?_)
      go_simp
      have hEQ := tequal_any gc.sa gc.sl gc.sc gc.ss gc.ca gc.cl gc.cc gc.cs (some ⟨p4.heap.size, 0, none⟩) 2 2 [1, 2] E2 2 f2 (wholeF [27, 38]) p7 (TGcv.out.kept bp7.out).1 (TGcv.out.kept bp7.out).2.1 sp7.out cp7.out
      rw [show sameT gc.ss gc.cs [1, 2] (wholeF [27, 38]) = true by rw [Egc.out.1, Egc.out.2]; simp [sameT, sameL]] at hEQ
      refine hEQ.mono ?_
      rintro e p8 ⟨rfl, hb⟩
      have bp8 := Lib.hid (bp7.out.trans (hb.mono bp7.out.size))
      clear hb hEQ
      go_wp2_with fail
      refine hK.out _ _ (SK.out _ bp8.out) (fun hHeld => ?_)
      try simp only [Act.put, List.setIfInBounds_toArray, List.set_cons_zero, List.set_cons_succ]
      refine held_take 24 (.bool true) rfl (by kernel_rfl) (by kernel_rfl) (by kernel_rfl) (fun _ _ _ h => h) (by rfl) (by intro w' hS; go_simp) (by assumption) ?_
      try simp only [Act.put, List.setIfInBounds_toArray, List.set_cons_zero, List.set_cons_succ]
      refine held_take 25 (.bool true) rfl (by kernel_rfl) (by kernel_rfl) (by kernel_rfl) (fun _ _ _ h => h) (by rfl) (by intro w' hS; go_simp) (by assumption) ?_
      try simp only [Act.put, List.setIfInBounds_toArray, List.set_cons_zero, List.set_cons_succ]
      refine held_take 26 (.pointer (some ⟨w8.heap.size, 2, none⟩)) rfl (by kernel_rfl) (by kernel_rfl) (by kernel_rfl) (fun _ _ _ h => h) (by rfl) (by intro w' hS; go_simp) (by assumption) ?_
      try simp only [Act.put, List.setIfInBounds_toArray, List.set_cons_zero, List.set_cons_succ]
      refine held_take 27 (.agg #[.slice gb.sa gb.sl gb.sc, .slice gb.ca gb.cl gb.cc]) rfl (by kernel_rfl) (by kernel_rfl) (by kernel_rfl) (fun _ _ _ h => h) (by rfl) (by intro w' hS; go_simp) (by assumption) ?_
      try simp only [Act.put, List.setIfInBounds_toArray, List.set_cons_zero, List.set_cons_succ]
      refine held_take 28 (.agg #[.slice C1 1 d1, .slice C2 2 d2]) rfl (by kernel_rfl) (by kernel_rfl) (by kernel_rfl) (fun _ _ _ h => h) (by rfl) (by intro w' hS; go_simp) (by assumption) ?_
      try simp only [Act.put, List.setIfInBounds_toArray, List.set_cons_zero, List.set_cons_succ]
      refine held_call 29 (by kernel_rfl) rfl (by rfl) (fun K hK => ?_)
      go_simp
      have hEQ := tequal_any gb.sa gb.sl gb.sc gb.ss gb.ca gb.cl gb.cc gb.cs C1 1 d1 [2] C2 2 d2 (wholeF [3, 8]) p8 (TGbv.out.kept bp8.out).1 (TGbv.out.kept bp8.out).2.1 (TYv.out.kept bp8.out).1 (TYv.out.kept bp8.out).2.1
      rw [show sameT gb.ss gb.cs [2] (wholeF [3, 8]) = true by rw [Egb.out.1, Egb.out.2]; simp [sameT, sameL]] at hEQ
      refine hEQ.mono ?_
      rintro e p9 ⟨rfl, hb⟩
      have bp9 := Lib.hid (bp8.out.trans (hb.mono bp8.out.size))
      clear hb hEQ
      go_wp2_with fail
      refine hK.out _ _ (SK.out _ bp9.out) (fun hHeld => ?_)
      try simp only [Act.put, List.setIfInBounds_toArray, List.set_cons_zero, List.set_cons_succ]
      refine held_take 30 (.bool true) rfl (by kernel_rfl) (by kernel_rfl) (by kernel_rfl) (fun _ _ _ h => h) (by rfl) (by intro w' hS; go_simp) (by assumption) ?_
      try simp only [Act.put, List.setIfInBounds_toArray, List.set_cons_zero, List.set_cons_succ]
      refine held_take 31 (.bool true) rfl (by kernel_rfl) (by kernel_rfl) (by kernel_rfl) (fun _ _ _ h => h) (by rfl) (by intro w' hS; go_simp) (by assumption) ?_
      try simp only [Act.put, List.setIfInBounds_toArray, List.set_cons_zero, List.set_cons_succ]
      refine wpAnyH_done (by kernel_rfl) ?_ _
      go_wp2_with fail
      go_ret
      exact ⟨rfl, yD.out.trans (bp9.out.mono yD.out.size)⟩
    · go_simp
      have ip5 := Lib.hid (IntsAt.made p4 3 [27, 38] 2 rfl (by omega) (fs.out.2.2.2.2.2.2.2))
      have hb : Below p4.heap.size p4 (p4.alloc (.cells ([27, 38].map (Value.int .i64)).toArray 3)) := (Below.refl _ _).alloc (Nat.le_refl _) _
      simp only [List.map_cons, List.map_nil] at ip5 hb
      obtain ⟨p5, hnew⟩ : ∃ wn, p4.alloc (.cells [Value.int .i64 27, Value.int .i64 38].toArray 3) = wn := ⟨_, rfl⟩
      rw [hnew] at ip5 hb ⊢
      clear hnew
      have bp5 := Lib.hid (bp4.out.trans (hb.mono bp4.out.size))
      have kp5 := Lib.hid hb
      clear hb
      refine hK.out _ _ (SK.out _ bp5.out) (fun hHeld => ?_)
      try simp only [Act.put, List.setIfInBounds_toArray, List.set_cons_zero, List.set_cons_succ]
      refine held_call 20 (by kernel_rfl) rfl (by rfl) (fun K hK => ?_)
      go_simp
      have ip6 := Lib.hid (IntsAt.made p5 3 [1, 2] 2 rfl (by omega) (fs.out.2.2.1))
      have hb : Below p5.heap.size p5 (p5.alloc (.cells ([1, 2].map (Value.int .i64)).toArray 3)) := (Below.refl _ _).alloc (Nat.le_refl _) _
      simp only [List.map_cons, List.map_nil] at ip6 hb
      obtain ⟨p6, hnew⟩ : ∃ wn, p5.alloc (.cells [Value.int .i64 1, Value.int .i64 2].toArray 3) = wn := ⟨_, rfl⟩
      rw [hnew] at ip6 hb ⊢
      clear hnew
      have bp6 := Lib.hid (bp5.out.trans (hb.mono bp5.out.size))
      have kp6 := Lib.hid hb
      clear hb
      refine hK.out _ _ (SK.out _ bp6.out) (fun hHeld => ?_)
      try simp only [Act.put, List.setIfInBounds_toArray, List.set_cons_zero, List.set_cons_succ]
      have isp6 := Lib.hid (ip5.out.kept kp6.out)
      refine held_call 22 (by kernel_rfl) rfl (by rfl) (fun K hK => ?_)
      go_simp
      refine (of6_any (some ⟨p5.heap.size, 0, none⟩) 2 2 (some ⟨p4.heap.size, 0, none⟩) 2 2 [27, 38] p6 isp6.out (by omega)).mono ?_
      rintro e p7 ⟨E2, f2, rfl, op7, hb⟩
      have bp7 := Lib.hid (bp6.out.trans (hb.mono bp6.out.size))
      have cp7 := Lib.hid (row_ints op7 (show 2 ≤ 9223372036854775807 by omega) (wholeF_fits _))
      have sp7 := Lib.hid (ip6.out.kept hb)
      clear hb op7
      go_wp2_with fail
      refine hK.out _ _ (SK.out _ bp7.out) (fun hHeld => ?_)
      try simp only [Act.put, List.setIfInBounds_toArray, List.set_cons_zero, List.set_cons_succ]
      refine held_call 23 (by kernel_rfl) rfl (by rfl) (fun K hK => ?_)
      go_simp
      have hEQ := tequal_any gc.sa gc.sl gc.sc gc.ss gc.ca gc.cl gc.cc gc.cs (some ⟨p5.heap.size, 0, none⟩) 2 2 [1, 2] E2 2 f2 (wholeF [27, 38]) p7 (TGcv.out.kept bp7.out).1 (TGcv.out.kept bp7.out).2.1 sp7.out cp7.out
      rw [show sameT gc.ss gc.cs [1, 2] (wholeF [27, 38]) = true by rw [Egc.out.1, Egc.out.2]; simp [sameT, sameL]] at hEQ
      refine hEQ.mono ?_
      rintro e p8 ⟨rfl, hb⟩
      have bp8 := Lib.hid (bp7.out.trans (hb.mono bp7.out.size))
      clear hb hEQ
      go_wp2_with fail
      refine hK.out _ _ (SK.out _ bp8.out) (fun hHeld => ?_)
      try simp only [Act.put, List.setIfInBounds_toArray, List.set_cons_zero, List.set_cons_succ]
      refine held_take 24 (.bool true) rfl (by kernel_rfl) (by kernel_rfl) (by kernel_rfl) (fun _ _ _ h => h) (by rfl) (by intro w' hS; go_simp) (by assumption) ?_
      try simp only [Act.put, List.setIfInBounds_toArray, List.set_cons_zero, List.set_cons_succ]
      refine held_take 25 (.bool true) rfl (by kernel_rfl) (by kernel_rfl) (by kernel_rfl) (fun _ _ _ h => h) (by rfl) (by intro w' hS; go_simp) (by assumption) ?_
      try simp only [Act.put, List.setIfInBounds_toArray, List.set_cons_zero, List.set_cons_succ]
      refine held_take 26 (.pointer (some ⟨w8.heap.size, 2, none⟩)) rfl (by kernel_rfl) (by kernel_rfl) (by kernel_rfl) (fun _ _ _ h => h) (by rfl) (by intro w' hS; go_simp) (by assumption) ?_
      try simp only [Act.put, List.setIfInBounds_toArray, List.set_cons_zero, List.set_cons_succ]
      refine held_take 27 (.agg #[.slice gb.sa gb.sl gb.sc, .slice gb.ca gb.cl gb.cc]) rfl (by kernel_rfl) (by kernel_rfl) (by kernel_rfl) (fun _ _ _ h => h) (by rfl) (by intro w' hS; go_simp) (by assumption) ?_
      try simp only [Act.put, List.setIfInBounds_toArray, List.set_cons_zero, List.set_cons_succ]
      refine held_take 28 (.agg #[.slice C1 1 d1, .slice C2 2 d2]) rfl (by kernel_rfl) (by kernel_rfl) (by kernel_rfl) (fun _ _ _ h => h) (by rfl) (by intro w' hS; go_simp) (by assumption) ?_
      try simp only [Act.put, List.setIfInBounds_toArray, List.set_cons_zero, List.set_cons_succ]
      refine held_call 29 (by kernel_rfl) rfl (by rfl) (fun K hK => ?_)
      go_simp
      have hEQ := tequal_any gb.sa gb.sl gb.sc gb.ss gb.ca gb.cl gb.cc gb.cs C1 1 d1 [2] C2 2 d2 (wholeF [3, 8]) p8 (TGbv.out.kept bp8.out).1 (TGbv.out.kept bp8.out).2.1 (TYv.out.kept bp8.out).1 (TYv.out.kept bp8.out).2.1
      rw [show sameT gb.ss gb.cs [2] (wholeF [3, 8]) = true by rw [Egb.out.1, Egb.out.2]; simp [sameT, sameL]] at hEQ
      refine hEQ.mono ?_
      rintro e p9 ⟨rfl, hb⟩
      have bp9 := Lib.hid (bp8.out.trans (hb.mono bp8.out.size))
      clear hb hEQ
      go_wp2_with fail
      refine hK.out _ _ (SK.out _ bp9.out) (fun hHeld => ?_)
      try simp only [Act.put, List.setIfInBounds_toArray, List.set_cons_zero, List.set_cons_succ]
      refine held_take 30 (.bool true) rfl (by kernel_rfl) (by kernel_rfl) (by kernel_rfl) (fun _ _ _ h => h) (by rfl) (by intro w' hS; go_simp) (by assumption) ?_
      try simp only [Act.put, List.setIfInBounds_toArray, List.set_cons_zero, List.set_cons_succ]
      refine held_take 31 (.bool true) rfl (by kernel_rfl) (by kernel_rfl) (by kernel_rfl) (fun _ _ _ h => h) (by rfl) (by intro w' hS; go_simp) (by assumption) ?_
      try simp only [Act.put, List.setIfInBounds_toArray, List.set_cons_zero, List.set_cons_succ]
      refine wpAnyH_done (by kernel_rfl) ?_ _
      go_wp2_with fail
      go_ret
      exact ⟨rfl, yD.out.trans (bp9.out.mono yD.out.size)⟩
end Go.Proofs.Ytlpecdfiagklpaa
