/-
  The fixed answer of the statements of layer 4: the program gives it.
-/
import Derived.Test.YtjphdkbhkkpeoaaTenH
namespace Go.Proofs.Ytjphdkbhkkpeoaa
open Go.RowKit
set_option linter.unusedVariables false
set_option linter.unusedSimpArgs false

/-- Two new slices of integers, one behind the other. -/
theorem rows_made (W : World) (t t' : TypeId) (xs ys : List Int) (n m : Nat) (hn : xs.length = n) (hm : ys.length = m) (h1 : n ≤ 1000) (h2 : m ≤ 1000) (f1 : Fits xs) (f2 : Fits ys) :
    ∃ W2, Hid ((W.alloc (.cells (xs.map (Value.int .i64)).toArray t)).alloc (.cells (ys.map (Value.int .i64)).toArray t') = W2) ∧ Hid (IntsAt W2 (some ⟨W.heap.size, 0, none⟩) n xs) ∧ Hid (IntsAt W2 (some ⟨W.heap.size + 1, 0, none⟩) m ys) ∧ Hid (Below W.heap.size W W2) := by
  refine ⟨_, Lib.hid rfl, Lib.hid ((IntsAt.made W t xs n hn (by omega) f1).kept ((Below.refl _ _).alloc (Nat.le_refl _) _)), Lib.hid ?_, Lib.hid (((Below.refl _ _).alloc (Nat.le_refl _) _).alloc (by simp) _)⟩
  have := IntsAt.made (W.alloc (.cells (xs.map (Value.int .i64)).toArray t)) t' ys m hm (by omega) f2
  simpa using this
theorem row_made (W : World) (t : TypeId) (xs : List Int) (n : Nat) (hn : xs.length = n) (h1 : n ≤ 1000) (f1 : Fits xs) :
    ∃ W2, Hid (W.alloc (.cells (xs.map (Value.int .i64)).toArray t) = W2) ∧ Hid (IntsAt W2 (some ⟨W.heap.size, 0, none⟩) n xs) ∧ Hid (Below W.heap.size W W2) :=
  ⟨_, Lib.hid rfl, Lib.hid (IntsAt.made W t xs n hn (by omega) f1), Lib.hid ((Below.refl _ _).alloc (Nat.le_refl _) _)⟩
theorem fits_small {l : List Int} (h : allR 0 100 l = true) : Fits l := by
  intro n hn
  unfold allR at h
  rw [List.all_eq_true] at h
  have := inR_bounds (h n hn)
  omega

set_option maxHeartbeats 4000000 in
theorem awake04_any (w : World) :
    Calls Try.prog 9 #[] w fun e w' => e = .returned (.bool true) ∧ Below w.heap.size w w' := by
  have v1 : Hid (rightT [2] 2 = true) := by show _ = _; decide +kernel
  have v2 : Hid (rightT [2] 1 = false) := by show _ = _; decide +kernel
  have v3 : Hid (rightS [2] = true ∧ prodI [2] = 2) := by show _ ∧ _; decide +kernel
  have v4 : Hid (alikeT [2] 2 [2] 2 = true) := by show _ = _; decide +kernel
  have v5 : Hid (tplaceE [2] 2 [1] = 0 ∧ tplaceN [2] 2 [1] = 1) := by show _ ∧ _; decide +kernel
  have v6 : Hid (addL [1, 2] [3, 3] = [4, 5]) := by show _ = _; decide +kernel
  have v7 : Hid (sameT [2] [4, 5] [2] [4, 5] = true ∧ sameT [2] [4, 5] [2] [3, 3] = false) := by show _ ∧ _; decide +kernel
  have fs : Hid (Fits [2] ∧ Fits [1, 2] ∧ Fits [3, 3] ∧ Fits [4, 5] ∧ Fits [1]) := by
    show _ ∧ _ ∧ _ ∧ _ ∧ _
    refine ⟨?_, ?_, ?_, ?_, ?_⟩ <;> exact fits_small (by decide +kernel)
  obtain ⟨w0, hw0, s0, c0, z0⟩ := rows_made w 3 27 [2] [1, 2] 1 2 rfl rfl (by omega) (by omega) fs.out.1 fs.out.2.1
  go_enter Try.func9, Try.ntmps9
  go_wp2_with fail
  have hw0' := hw0.out
  simp only [List.map_cons, List.map_nil] at hw0'
  rw [hw0']
  clear hw0'
  refine (of_ok _ 1 _ [2] _ 2 _ [1, 2] _ s0.out (by omega) c0.out (by omega) v1.out).mono ?_
  rintro e w1 ⟨v', rfl, A1, k1, A2, k2, rfl, o1, o2, -, hb1⟩
  have sA := Lib.hid (row_ints o1 (by omega) fs.out.1)
  have cA := Lib.hid (row_ints o2 (by omega) fs.out.2.1)
  have y1 := Lib.hid (z0.out.trans (hb1.mono z0.out.size))
  clear o1 o2 hb1 s0 c0 z0 hw0
  obtain ⟨w2, hw2, JA, x2, n2⟩ := grid_box w1 (.slice A1 1 k1) (.slice A2 2 k2)
  obtain ⟨w3, hw3, s3, x3⟩ := row_made w2 3 [2] 1 rfl (by omega) fs.out.1
  go_upto_region 2 with (fail)
  rw [hw2.out]
  have hw3' := hw3.out
  simp only [List.map_cons, List.map_nil] at hw3'
  go_wp2_with fail
  refine (make_ok _ 1 _ [2] 3 w3 s3.out v3.out.1 2 v3.out.2).mono ?_
  rintro e w4 ⟨v', rfl, A3, k3, A4, k4, rfl, o1, o2, -, hb1⟩
  have sB := Lib.hid (row_ints o1 (by omega) fs.out.1)
  have cB := Lib.hid (row_ints (zs := [3, 3]) o2 (by omega) fs.out.2.2.1)
  have q4 := Lib.hid ((x2.out.trans (x3.out.mono x2.out.size)).trans (hb1.mono (x2.out.trans (x3.out.mono x2.out.size)).size))
  have JA4 := Lib.hid ((JA.out.kept x3.out).kept hb1)
  clear o1 o2 hb1 s3 hw3 hw3' hw2 x2 x3 JA
  obtain ⟨w5, hw5, JB, x5, n5⟩ := grid_box w4 (.slice A3 1 k3) (.slice A4 2 k4)
  go_upto_region 3 with (fail)
  rw [hw5.out]
  have q5 := Lib.hid (q4.out.trans (x5.out.mono q4.out.size))
  have sA5 := Lib.hid (sA.out.kept q5.out)
  have cA5 := Lib.hid (cA.out.kept q5.out)
  have sB5 := Lib.hid (sB.out.kept x5.out)
  have cB5 := Lib.hid (cB.out.kept x5.out)
  have JA5 := Lib.hid (JA4.out.kept x5.out)
  have y5 := Lib.hid (y1.out.trans (q5.out.mono y1.out.size))
  clear JA4 sA cA sB cB q4 q5 y1 x5 hw5
  obtain ⟨a0, a1, -, -⟩ := JA5.out.see
  obtain ⟨b0, b1, -, -⟩ := JB.out.see
  go_wp2_with fail
  refine (tadd_ok A1 1 k1 [2] A2 2 k2 [1, 2] A3 1 k3 [2] A4 k4 [3, 3] w5 sA5.out (by omega) cA5.out (by omega) sB5.out cB5.out v4.out (by omega)).mono ?_
  rintro e w6 ⟨v', rfl, A5, k5, A6, k6, rfl, o1, o2, -, hb1⟩
  rw [v6.out] at o2
  have sC := Lib.hid (row_ints o1 (by omega) fs.out.1)
  have cC := Lib.hid (row_ints o2 (by omega) fs.out.2.2.2.1)
  have hb6 := Lib.hid hb1
  clear o1 o2 hb1 a0 a1 b0 b1
  obtain ⟨w7, hw7, JC, x7, n7⟩ := grid_box w6 (.slice A5 1 k5) (.slice A6 2 k6)
  obtain ⟨w8, hw8, s8, c8, x8⟩ := rows_made w7 3 27 [2] [1] 1 1 rfl rfl (by omega) (by omega) fs.out.1 fs.out.2.2.2.2
  go_upto_region 4 with (fail)
  rw [hw7.out]
  have hw8' := hw8.out
  simp only [List.map_cons, List.map_nil] at hw8'
  go_wp2_with fail
  clear hw8'
  refine (of_no _ 1 _ [2] _ 1 _ w8 s8.out (by omega) v2.out).mono ?_
  rintro e w9 ⟨rfl, hb9⟩
  obtain ⟨w10, hw10, -, x10, n10⟩ := grid_box w9 (.slice none 0 0) (.slice none 0 0)
  go_upto_region 5 with (fail)
  rw [hw10.out]
  have q9 := x8.out.trans (hb9.mono x8.out.size)
  have q10 := q9.trans (x10.out.mono q9.size)
  have r10 := x7.out.trans (q10.mono x7.out.size)
  have t10 := Lib.hid (hb6.out.trans (r10.mono hb6.out.size))
  have JC10 := Lib.hid (JC.out.kept q10)
  have JB10 := Lib.hid (JB.out.kept t10.out)
  have sC10 := Lib.hid (sC.out.kept r10)
  have cC10 := Lib.hid (cC.out.kept r10)
  have sB10 := Lib.hid (sB5.out.kept t10.out)
  have cB10 := Lib.hid (cB5.out.kept t10.out)
  have y10 := Lib.hid (y5.out.trans (t10.out.mono y5.out.size))
  clear q9 q10 r10 t10 hb9 hw10 hw8 hw7 s8 c8 x8 x7 x10 JC JB sC cC sB5 cB5 y5 hb6 sA5 cA5 JA5
  obtain ⟨w11, hw11, s11, x11⟩ := row_made w10 3 [1] 1 rfl (by omega) fs.out.2.2.2.2
  have hw11' := hw11.out
  simp only [List.map_cons, List.map_nil] at hw11'
  obtain ⟨d0, d1, -, -⟩ := JC10.out.see
  go_wp2_with fail
  clear hw11' d0 d1
  refine (tget_ok A5 1 k5 [2] A6 2 k6 [4, 5] _ 1 1 [1] w11 (sC10.out.kept x11.out) (cC10.out.kept x11.out) s11.out 1 v5.out.1 v5.out.2 (by omega)).mono ?_
  rintro e w12 ⟨rfl, hb12⟩
  have q12 := x11.out.trans (hb12.mono x11.out.size)
  have JC12 := Lib.hid (JC10.out.kept q12)
  have JB12 := Lib.hid (JB10.out.kept q12)
  have sC12 := Lib.hid (sC10.out.kept q12)
  have cC12 := Lib.hid (cC10.out.kept q12)
  have sB12 := Lib.hid (sB10.out.kept q12)
  have cB12 := Lib.hid (cB10.out.kept q12)
  have y12 := Lib.hid (y10.out.trans (q12.mono y10.out.size))
  clear q12 hb12 hw11 s11 x11 JC10 JB10 sC10 cC10 sB10 cB10 y10
  obtain ⟨d0, d1, -, -⟩ := JC12.out.see
  go_wp2_with fail
  have Q1 := tequal_any A5 1 k5 [2] A6 2 k6 [4, 5] A5 1 k5 [2] A6 2 k6 [4, 5] w12 sC12.out cC12.out sC12.out cC12.out
  rw [v7.out.1] at Q1
  refine Q1.mono ?_
  rintro e w13 ⟨rfl, hb13⟩
  have Q2 := tequal_any A5 1 k5 [2] A6 2 k6 [4, 5] A3 1 k3 [2] A4 2 k4 [3, 3] w13 (sC12.out.kept hb13) (cC12.out.kept hb13) (sB12.out.kept hb13) (cB12.out.kept hb13)
  rw [v7.out.2] at Q2
  have Q2' := Lib.hid Q2
  clear Q1 Q2 d0 d1
  obtain ⟨d0, d1, -, -⟩ := (JC12.out.kept hb13).see
  obtain ⟨b0, b1, -, -⟩ := (JB12.out.kept hb13).see
  go_wp2_with fail
  refine Q2'.out.mono ?_
  rintro e w14 ⟨rfl, hb14⟩
  go_wp2_with fail
  go_ret
  exact ⟨rfl, y12.out.trans ((hb13.trans (hb14.mono hb13.size)).mono y12.out.size)⟩
end Go.Proofs.Ytjphdkbhkkpeoaa
