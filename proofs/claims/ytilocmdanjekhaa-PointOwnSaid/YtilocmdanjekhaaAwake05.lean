/-
  The fixed answer of the statements of layer 5: the program gives it.
-/
import Derived.Test.YtilocmdanjekhaaPtE
import Derived.Test.YtilocmdanjekhaaTenD
namespace Go.Proofs.Ytilocmdanjekhaa
open Go.RowKit
set_option linter.unusedVariables false
set_option linter.unusedSimpArgs false

/-- Two new slices of integers, one behind the other. -/
theorem rows_made5 (W : World) (t t' : TypeId) (xs ys : List Int) (n m : Nat) (hn : xs.length = n) (hm : ys.length = m) (h1 : n ≤ 1000) (h2 : m ≤ 1000) (f1 : Fits xs) (f2 : Fits ys) :
    ∃ W2, Hid ((W.alloc (.cells (xs.map (Value.int .i64)).toArray t)).alloc (.cells (ys.map (Value.int .i64)).toArray t') = W2) ∧ Hid (IntsAt W2 (some ⟨W.heap.size, 0, none⟩) n xs) ∧ Hid (IntsAt W2 (some ⟨W.heap.size + 1, 0, none⟩) m ys) ∧ Hid (Below W.heap.size W W2) := by
  refine ⟨_, Lib.hid rfl, Lib.hid ((IntsAt.made W t xs n hn (by omega) f1).kept ((Below.refl _ _).alloc (Nat.le_refl _) _)), Lib.hid ?_, Lib.hid (((Below.refl _ _).alloc (Nat.le_refl _) _).alloc (by simp) _)⟩
  have := IntsAt.made (W.alloc (.cells (xs.map (Value.int .i64)).toArray t)) t' ys m hm (by omega) f2
  simpa using this
theorem fits_few {l : List Int} (h : allR (-100) 100 l = true) : Fits l := by
  intro n hn
  unfold allR at h
  rw [List.all_eq_true] at h
  have := inR_bounds (h n hn)
  omega
/-- A new slice of one tensor. -/
theorem gs_made1 (W : World) (t : TV) (h : t.At W) :
    ∃ W2, Hid (W.alloc (.cells #[.slice t.sa t.sl t.sc, .slice t.ca t.cl t.cc] 30) = W2) ∧ Hid (GsAt W2 (some ⟨W.heap.size, 0, none⟩) 1 [t]) ∧ Hid (Below W.heap.size W W2) := by
  have hb : Below W.heap.size W (W.alloc (.cells #[.slice t.sa t.sl t.sc, .slice t.ca t.cl t.cc] 30)) := (Below.refl _ _).alloc (Nat.le_refl _) _
  refine ⟨_, Lib.hid rfl, Lib.hid ⟨rfl, by omega, ?_, .inr ⟨W.heap.size, 0, rfl, ?_⟩⟩, Lib.hid hb⟩
  · intro u hu
    rw [List.mem_singleton] at hu
    subst hu
    exact h.kept hb
  · intro j u hj
    match j, hj with
    | 0, hj =>
      simp at hj
      subst hj
      rw [World.cell?_alloc_new, World.cell?_alloc_new]
      exact ⟨rfl, rfl⟩
theorem goL_one {kind k : Int} {cs : List Int} {ts : List TV} (h : ts.length < 2) : goL kind k cs ts = cs.map fun x => pcell kind k x 0 := by
  exact List.ext_getElem (by simp [goL]) (fun i h1 h2 => by simp [goL, otherN_one h])
theorem bxL_one {kind k : Int} {xs gs : List Int} {ts : List TV} (h : ts.length < 2) : bxL kind k xs ts gs = gs.mapIdx fun j g => pslx kind k (xs.getD j 0) 0 g := by
  unfold bxL
  simp [otherN_one h]
theorem fault_two (kind : Int) (hk : insN kind = 1) (A A' : Option Addr) (k k' : Nat) (cs : List Int) : faultE kind [⟨A, 1, k, [2], A', 2, k', cs⟩] = 0 := by
  refine faultE_ok (by rw [hk]; decide) (by rw [hk]; rfl) ?_
  have : okT [2] ⟨A, 1, k, [2], A', 2, k', cs⟩ = true := by
    unfold okT
    show (rightT [2] 2 && sameL [2] [2]) = true
    decide +kernel
  unfold okTs
  simp [shape0, this]

set_option maxRecDepth 100000 in
set_option maxHeartbeats 4000000 in
theorem awake05_any (w : World) :
    Calls Try.prog 8 #[] w fun e w' => e = .returned (.bool true) ∧ Below w.heap.size w w' := by
  have v1 : Hid (rightT [2] 2 = true) := by show _ = _; decide +kernel
  have v2 : Hid ([-1, 2].map (fun x => pcell 1 0 x 0) = [0, 2]) := by show _ = _; decide +kernel
  have v3 : Hid ([5, 7].mapIdx (fun j g => pslx 1 0 ([-1, 2].getD j 0) 0 g) = [0, 7]) := by show _ = _; decide +kernel
  have v4 : Hid (insN 1 = 1 ∧ insN 9 = 0 ∧ insN 7 = 2) := by show _ ∧ _; decide +kernel
  have fs : Hid (Fits [2] ∧ Fits [-1, 2] ∧ Fits [5, 7] ∧ Fits [0, 2] ∧ Fits [0, 7]) := by
    show _ ∧ _ ∧ _ ∧ _ ∧ _
    refine ⟨?_, ?_, ?_, ?_, ?_⟩ <;> exact fits_few (by decide +kernel)
  obtain ⟨w0, hw0, s0, c0, z0⟩ := rows_made5 w 3 22 [2] [-1, 2] 1 2 rfl rfl (by omega) (by omega) fs.out.1 fs.out.2.1
  go_enter Try.func8, Try.ntmps8
  go_wp2_with fail
  have hw0' := hw0.out
  simp only [List.map_cons, List.map_nil] at hw0'
  rw [hw0']
  clear hw0'
  refine (of_ok _ 1 _ [2] _ 2 _ [-1, 2] _ s0.out (by omega) c0.out (by omega) v1.out).mono ?_
  rintro e w1 ⟨v', rfl, A1, k1, A2, k2, rfl, o1, o2, -, hb1⟩
  have sA := Lib.hid (row_ints o1 (by omega) fs.out.1)
  have cA := Lib.hid (row_ints o2 (by omega) fs.out.2.1)
  have y1 := Lib.hid (z0.out.trans (hb1.mono z0.out.size))
  clear o1 o2 hb1 s0 c0 z0 hw0
  obtain ⟨w2, hw2, JA, x2, n2⟩ := grid_box w1 (.slice A1 1 k1) (.slice A2 2 k2)
  obtain ⟨w3, hw3, s3, c3, z3⟩ := rows_made5 w2 3 22 [2] [5, 7] 1 2 rfl rfl (by omega) (by omega) fs.out.1 fs.out.2.2.1
  go_upto_region 2 with (fail)
  rw [hw2.out]
  have hw3' := hw3.out
  simp only [List.map_cons, List.map_nil] at hw3'
  go_wp2_with fail
  clear hw3'
  refine (of_ok _ 1 _ [2] _ 2 _ [5, 7] _ s3.out (by omega) c3.out (by omega) v1.out).mono ?_
  rintro e w4 ⟨v', rfl, B1, m1, B2, m2, rfl, o1, o2, -, hb1⟩
  have sB := Lib.hid (row_ints o1 (by omega) fs.out.1)
  have cB := Lib.hid (row_ints o2 (by omega) fs.out.2.2.1)
  have q4 := Lib.hid ((x2.out.trans (z3.out.mono x2.out.size)).trans (hb1.mono (x2.out.trans (z3.out.mono x2.out.size)).size))
  have JA4 := Lib.hid ((JA.out.kept z3.out).kept hb1)
  clear o1 o2 hb1 s3 c3 z3 hw3 hw2 x2 JA
  obtain ⟨w5, hw5, JB, x5, n5⟩ := grid_box w4 (.slice B1 1 m1) (.slice B2 2 m2)
  have q5 := Lib.hid (q4.out.trans (x5.out.mono q4.out.size))
  have y5 := Lib.hid (y1.out.trans (q5.out.mono y1.out.size))
  have TA := Lib.hid (show TV.At ⟨A1, 1, k1, [2], A2, 2, k2, [-1, 2]⟩ w5 from ⟨sA.out.kept q5.out, cA.out.kept q5.out, by simp, by simp⟩)
  have TB := Lib.hid (show TV.At ⟨B1, 1, m1, [2], B2, 2, m2, [5, 7]⟩ w5 from ⟨sB.out.kept x5.out, cB.out.kept x5.out, by simp, by simp⟩)
  have JA5 := Lib.hid (JA4.out.kept x5.out)
  clear q4 q5 y1 sA cA sB cB JA4
  obtain ⟨w6, hw6, ga6, z6⟩ := gs_made1 w5 ⟨A1, 1, k1, [2], A2, 2, k2, [-1, 2]⟩ TA.out
  go_upto_region 3 with (fail)
  rw [hw5.out]
  obtain ⟨j0, j1, -, -⟩ := JA5.out.see
  have hw6' := hw6.out
  go_wp2_with fail
  clear hw6' j0 j1
  refine (pgo_ok 1 0 _ 1 1 _ w6 ga6.out (fault_two 1 v4.out.1 ..) ⟨A1, 1, k1, [2], A2, 2, k2, [-1, 2]⟩ rfl (by show 2 ≤ 1000; omega) (by omega) (by omega)).mono ?_
  rintro e w7 ⟨v', rfl, C1, p1, C2, p2, rfl, o1, o2, -, hb7⟩
  rw [goL_one (by simp)] at o2
  rw [v2.out] at o2
  have cC := Lib.hid (row_ints o2 (by simp) fs.out.2.2.2.1)
  have q7 := Lib.hid (z6.out.trans (hb7.mono z6.out.size))
  obtain ⟨w8, hw8, JC, x8, n8⟩ := grid_box w7 (.slice C1 1 p1) (.slice C2 2 p2)
  have q8 := Lib.hid (q7.out.trans (x8.out.mono q7.out.size))
  have y8 := Lib.hid (y5.out.trans (q8.out.mono y5.out.size))
  have TA8 := Lib.hid (TA.out.kept q8.out)
  have TB8 := Lib.hid (TB.out.kept q8.out)
  have JA8 := Lib.hid (JA5.out.kept q8.out)
  have JB8 := Lib.hid (JB.out.kept q8.out)
  have cC8 := Lib.hid (cC.out.kept x8.out)
  clear o1 o2 hb7 q7 q8 y5 TA TB JA5 JB cC ga6 z6 hw6 hw5 x5 x8
  obtain ⟨w9, hw9, ga9, z9⟩ := gs_made1 w8 ⟨A1, 1, k1, [2], A2, 2, k2, [-1, 2]⟩ TA8.out
  go_upto_region 4 with (fail)
  rw [hw8.out]
  obtain ⟨j0, j1, -, -⟩ := JA8.out.see
  obtain ⟨i0, i1, -, -⟩ := JB8.out.see
  have hw9' := hw9.out
  go_wp2_with fail
  clear hw9' j0 j1 i0 i1
  refine (pback_ok 1 0 ⟨B1, 1, m1, [2], B2, 2, m2, [5, 7]⟩ _ 1 1 _ w9 ga9.out (TB8.out.kept z9.out) (fault_two 1 v4.out.1 ..) ⟨A1, 1, k1, [2], A2, 2, k2, [-1, 2]⟩ rfl v1.out (by show sameL [2] [2] = true; decide +kernel) (by show 2 ≤ 1000; omega) (by omega) (by omega)).mono ?_
  rintro e w10 ⟨M, nn, us, rfl, hus, hl, hall, hM, hrow, hmany, hb10⟩
  obtain ⟨u, rfl⟩ : ∃ u, us = [u] := by
    have : us.length = 1 := by
      have := congrArg List.length hus
      unfold backR at this
      rw [v4.out.1] at this
      simpa using this
    exact List.length_eq_one_iff.1 this
  obtain rfl : nn = 1 := hl.symm
  obtain ⟨a1, a2, a3⟩ := hall u (by simp)
  have a4 : u.cs = [0, 7] := by
    unfold backR at hus
    rw [v4.out.1, if_pos rfl, bxL_one (by simp), v3.out] at hus
    simpa using hus
  have hgs := Lib.hid (gsat_of hrow (by omega) (fun x hx => by
    rw [List.mem_singleton] at hx
    subst hx
    exact (hmany.own x (by simp)).at (by rw [a2]; exact fs.out.1) (by rw [a4]; exact fs.out.2.2.2.2) (by rw [a1]; simp) (by rw [a3]; simp)))
  have q10 := Lib.hid (z9.out.trans (hb10.mono z9.out.size))
  have y10 := Lib.hid (y8.out.trans (q10.out.mono y8.out.size))
  have TA10 := Lib.hid (TA8.out.kept q10.out)
  have JA10 := Lib.hid (JA8.out.kept q10.out)
  have JC10 := Lib.hid (JC.out.kept q10.out)
  have cC10 := Lib.hid (cC8.out.kept q10.out)
  obtain ⟨u0, bb, oo, hu0, eb, d0, d1, hAu⟩ := hgs.out.at (k := 0) (by omega)
  simp only [Option.some.injEq, Addr.mk.injEq, and_true] at eb
  obtain ⟨rfl, rfl⟩ := eb
  obtain rfl : u = u0 := by simpa using hu0
  simp only [Nat.zero_mul, Nat.add_zero, Nat.zero_add] at d0 d1
  clear hus hall hrow hmany hu0 hb10 hM q10 y8 TA8 JA8 JC cC8 ga9 z9 hw9 hw8
  obtain ⟨w11, hw11, ga11, z11⟩ := gs_made1 w10 ⟨A1, 1, k1, [2], A2, 2, k2, [-1, 2]⟩ TA10.out
  have hw11' := hw11.out
  obtain ⟨j0, j1, -, -⟩ := JA10.out.see
  go_wp2_with fail
  clear hw11' j0 j1
  have NG := pgo_no 9 0 _ 1 1 _ w11 ga11.out (by unfold faultE; rw [if_pos v4.out.2.1]; decide)
  rw [show faultE 9 _ = 21 from faultE_op v4.out.2.1] at NG
  refine NG.mono ?_
  rintro e w12 ⟨rfl, hb12⟩
  obtain ⟨w13, hw13, -, x13, n13⟩ := grid_box w12 (.slice none 0 0) (.slice none 0 0)
  have q13 := Lib.hid (z11.out.trans ((hb12.trans (x13.out.mono hb12.size)).mono z11.out.size))
  have JC13 := JC10.out.kept q13.out
  have cC13 := cC10.out.kept q13.out
  have d1' := cell_later q13.out d1
  obtain ⟨-, cu, -, -⟩ := hAu.kept q13.out
  rw [a3, a4] at cu
  rw [a3] at d1'
  obtain ⟨b1, f1, rfl, h1⟩ : ∃ b1 f1, C2 = some ⟨b1, f1, none⟩ ∧ ∀ j, j < 2 → w13.cell? ⟨b1, f1 + j, none⟩ = some (.int .i64 ([0, 2].getD j 0)) := by
    rcases cC13.2.2.2 with h4 | ⟨b1, f1, ha, hc⟩
    · omega
    · exact ⟨b1, f1, ha, hc⟩
  obtain ⟨b2, f2, e2, h2⟩ : ∃ b2 f2, u.ca = some ⟨b2, f2, none⟩ ∧ ∀ j, j < 2 → w13.cell? ⟨b2, f2 + j, none⟩ = some (.int .i64 ([0, 7].getD j 0)) := by
    rcases cu.2.2.2 with h4 | ⟨b1, f1, ha, hc⟩
    · omega
    · exact ⟨b1, f1, ha, hc⟩
  rw [e2] at d1'
  have r1 := h1 0 (by omega)
  have r2 := h1 1 (by omega)
  have r3 := h2 0 (by omega)
  have r4 := h2 1 (by omega)
  simp only [Nat.add_zero, List.getD_cons_zero, List.getD_cons_succ] at r1 r2 r3 r4
  obtain ⟨j0, j1, -, -⟩ := JC13.see
  have yF := Lib.hid (y10.out.trans (q13.out.mono y10.out.size))
  have I7 := ins_any 7 w13
  rw [v4.out.2.2] at I7
  have I7' := Lib.hid I7
  clear I7 h1 h2 cu e2 hAu d0 d1 JC13 cC13 JC10 cC10 JA10 TA10 TB8 JB8 y10 hgs NG a1 a2 a3 a4
  go_upto_region 6 with (fail)
  rw [hw13.out]
  go_wp2_with fail
  refine I7'.out.mono ?_
  rintro e w14 ⟨rfl, rfl⟩
  go_wp2_with fail
  go_ret
  exact ⟨rfl, yF.out⟩
end Go.Proofs.Ytilocmdanjekhaa
