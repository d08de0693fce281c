/-
  The contract of package dense's Bias; the walk of the statement DenseBias.
-/
import Derived.Test.YtlpecdfiagklpaaAwake06
import Derived.Test.YtlpecdfiagklpaaDenseR
namespace Go.Proofs.Ytlpecdfiagklpaa
open Go.RowKit
set_option linter.unusedVariables false
set_option linter.unusedSimpArgs false

/-- One number more. -/
theorem take_one {xs : List Int} {k : Nat} (h : k < xs.length) : xs.take (k + 1) = xs.take k ++ [xs.getD k 0] := by
  rw [List.take_add_one, List.getElem?_eq_getElem h]
  simp [List.getD, List.getElem?_eq_getElem h]

set_option maxRecDepth 100000 in
set_option maxHeartbeats 2000000 in
theorem dbias_no (b x : TV) (w : World) (hb : b.At w) (hx : x.At w) (hr : alikeT x.ss x.cl b.ss b.cl = false) :
    Calls Try.prog 22 #[.agg #[.slice b.sa b.sl b.sc, .slice b.ca b.cl b.cc], .agg #[.slice x.sa x.sl x.sc, .slice x.ca x.cl x.cc]] w (NilT w 20) := by
  obtain ⟨wA, hwA, J1, z1, n1⟩ := grid_box w (.slice b.sa b.sl b.sc) (.slice b.ca b.cl b.cc)
  obtain ⟨wB, hwB, J2, z2, n2⟩ := grid_box wA (.slice x.sa x.sl x.sc) (.slice x.ca x.cl x.cc)
  obtain ⟨wC, hwC, J3, z3, n3⟩ := grid_box wB (.slice none 0 0) (.slice none 0 0)
  rw [n1.out] at J2
  rw [n2.out, n1.out] at J3
  have z12 := z1.out.trans (z2.out.mono z1.out.size)
  have z := Lib.hid (z12.trans (z3.out.mono z12.size))
  have J1' := Lib.hid ((J1.out.kept z2.out).kept z3.out)
  have J2' := Lib.hid (J2.out.kept z3.out)
  have hC3 : wC.heap.size = w.heap.size + 3 := by rw [n3.out, n2.out, n1.out]
  have C1 := Lib.hid (tadd_no x.sa x.sl x.sc x.ss x.ca x.cl x.cc b.sa b.sl b.sc b.ss b.ca b.cl b.cc wC (hx.kept z.out).1 (by have := hx.2.2.2; omega) (hb.kept z.out).1 (by have := hb.2.2.2; omega) hr)
  obtain ⟨j0, j1, -, -⟩ := J1'.out.see
  obtain ⟨i0, i1, -, -⟩ := J2'.out.see
  clear z12 J1 J2
  go_enter Try.func22, Try.ntmps22
  go_upto_region 1 with (fail)
  rw [hwA.out, hwB.out, hwC.out]
  go_wp2_with fail
  refine C1.out.mono ?_
  rintro e w1 ⟨rfl, hb1⟩
  clear j0 j1 i0 i1
  obtain ⟨e0, e1, f0, f1⟩ := (J3.out.kept hb1).see
  obtain ⟨h0, h1, -, -⟩ := ((J3.out.kept hb1).set (.slice none 0 0) (.slice none 0 0)).see
  have Z : Below w.heap.size w ((w1.setCell ⟨w.heap.size + 1 + 1, 0, none⟩ (.slice none 0 0)).setCell ⟨w.heap.size + 1 + 1, 1, none⟩ (.slice none 0 0)) :=
    ((z.out.trans (hb1.mono z.out.size)).setCell (show w.heap.size ≤ w.heap.size + 1 + 1 by omega) _).setCell (show w.heap.size ≤ w.heap.size + 1 + 1 by omega) _
  have Z' := Lib.hid Z
  clear Z
  go_wp2_with fail
  refine bodyPost_ret (v := .tuple #[.agg #[.slice none 0 0, .slice none 0 0], .int .i64 20]) ?_ rfl ⟨rfl, Z'.out⟩
  simp [results, Try.results22, go_sem, h0, h1]

set_option maxRecDepth 100000 in
set_option maxHeartbeats 2000000 in
theorem dbias_ok (b x : TV) (w : World) (hb : b.At w) (hx : x.At w) (hr : alikeT x.ss x.cl b.ss b.cl = true) (hl : x.cl ≤ 1000) (hs : x.sl ≤ 1000) :
    Calls Try.prog 22 #[.agg #[.slice b.sa b.sl b.sc, .slice b.ca b.cl b.cc], .agg #[.slice x.sa x.sl x.sc, .slice x.ca x.cl x.cc]] w (OkT w x.sl x.ss x.cl (addL x.cs b.cs)) := by
  have hbx : b.cl = x.cl := (alikeT_parts hr).2.2.2.symm
  rw [hbx]
  obtain ⟨wA, hwA, J1, z1, n1⟩ := grid_box w (.slice b.sa b.sl b.sc) (.slice b.ca x.cl b.cc)
  obtain ⟨wB, hwB, J2, z2, n2⟩ := grid_box wA (.slice x.sa x.sl x.sc) (.slice x.ca x.cl x.cc)
  obtain ⟨wC, hwC, J3, z3, n3⟩ := grid_box wB (.slice none 0 0) (.slice none 0 0)
  rw [n1.out] at J2
  rw [n2.out, n1.out] at J3
  have z12 := z1.out.trans (z2.out.mono z1.out.size)
  have z := Lib.hid (z12.trans (z3.out.mono z12.size))
  have J1' := Lib.hid ((J1.out.kept z2.out).kept z3.out)
  have J2' := Lib.hid (J2.out.kept z3.out)
  have hC3 : wC.heap.size = w.heap.size + 3 := by rw [n3.out, n2.out, n1.out]
  have C1 := Lib.hid ((by
    obtain ⟨p1, p2, p3, p4⟩ := alikeT_parts hr
    have := tadd_ok x.sa x.sl x.sc x.ss x.ca x.cl x.cc x.cs b.sa b.sl b.sc b.ss b.ca b.cc b.cs wC (hx.kept z.out).1 hs (hx.kept z.out).2.1 hl (hb.kept z.out).1 (by have := (hb.kept z.out).2.1; rw [← p4] at this; exact this) (by rw [p4] at hr ⊢; exact hr) (rightT_pos p1)
    exact this : Calls Try.prog 40 #[.agg #[.slice x.sa x.sl x.sc, .slice x.ca x.cl x.cc], .agg #[.slice b.sa b.sl b.sc, .slice b.ca x.cl b.cc]] wC (OkT wC x.sl x.ss x.cl (addL x.cs b.cs))))
  obtain ⟨j0, j1, -, -⟩ := J1'.out.see
  obtain ⟨i0, i1, -, -⟩ := J2'.out.see
  clear z12 J1 J2 hbx
  go_enter Try.func22, Try.ntmps22
  go_upto_region 1 with (fail)
  rw [hwA.out, hwB.out, hwC.out]
  go_wp2_with fail
  refine C1.out.mono ?_
  rintro e w1 ⟨v', rfl, A, c, A', c', rfl, o1, o2, hne, hb1⟩
  clear j0 j1 i0 i1
  obtain ⟨e0, e1, f0, f1⟩ := (J3.out.kept hb1).see
  obtain ⟨h0, h1, -, -⟩ := ((J3.out.kept hb1).set (.slice A x.sl c) (.slice A' x.cl c')).see
  have Z : Below w.heap.size w ((w1.setCell ⟨w.heap.size + 1 + 1, 0, none⟩ (.slice A x.sl c)).setCell ⟨w.heap.size + 1 + 1, 1, none⟩ (.slice A' x.cl c')) :=
    ((z.out.trans (hb1.mono z.out.size)).setCell (show w.heap.size ≤ w.heap.size + 1 + 1 by omega) _).setCell (show w.heap.size ≤ w.heap.size + 1 + 1 by omega) _
  have hw1 : w.heap.size + 1 + 1 < wC.heap.size := by omega
  have P : NewT w x.sl x.ss x.cl (addL x.cs b.cs) (.agg #[.slice A x.sl c, .slice A' x.cl c']) ((w1.setCell ⟨w.heap.size + 1 + 1, 0, none⟩ (.slice A x.sl c)).setCell ⟨w.heap.size + 1 + 1, 1, none⟩ (.slice A' x.cl c')) :=
    ⟨A, c, A', c', rfl, Joins.ownsRow_le (row_far (row_far o1 hw1) hw1) (by omega), Joins.ownsRow_le (row_far (row_far o2 hw1) hw1) (by omega), hne, Z⟩
  have P' := Lib.hid P
  clear P Z o1 o2 hw1 hne
  go_wp2_with fail
  refine bodyPost_ret (v := .tuple #[.agg #[.slice A x.sl c, .slice A' x.cl c'], .int .i64 0]) ?_ rfl ⟨_, rfl, P'.out⟩
  simp [results, Try.results22, go_sem, h0, h1]


set_option maxRecDepth 100000 in
set_option maxHeartbeats 8000000 in
theorem denseBias_core (b x : TV) (w : World) (hb0 : b.At w) (hx0 : x.At w) :
    Calls Try.prog 6 #[.agg #[.slice b.sa b.sl b.sc, .slice b.ca b.cl b.cc], .agg #[.slice x.sa x.sl x.sc, .slice x.ca x.cl x.cc]] w fun e w' => e = .returned (.bool true) ∧ Below w.heap.size w w' := by
  obtain ⟨wA, hwA, J1, z1, n1⟩ := grid_box w (.slice b.sa b.sl b.sc) (.slice b.ca b.cl b.cc)
  obtain ⟨wB, hwB, J2, z2, n2⟩ := grid_box wA (.slice x.sa x.sl x.sc) (.slice x.ca x.cl x.cc)
  rw [n1.out] at J2
  have z := Lib.hid (z1.out.trans (z2.out.mono z1.out.size))
  have J1' := Lib.hid (J1.out.kept z2.out)
  have hb := Lib.hid (hb0.kept z.out)
  have hx := Lib.hid (hx0.kept z.out)
  have hbc := Lib.hid hb0.2.1
  clear hb0 hx0 J1
  obtain ⟨j0, j1, -, -⟩ := J1'.out.see
  obtain ⟨i0, i1, -, -⟩ := J2.out.see
  by_cases c0 : b.cl ≤ 400
  case neg =>
    have d0 : decide ((400 : Int) < (b.cl : Int)) = true := decide_eq_true (by omega)
    have f0 : decide (400 < b.cl) = true := decide_eq_true (by omega)
    go_enter Try.func6, Try.ntmps6
    go_upto_region 1 with (fail)
    rw [hwA.out, hwB.out]
    go_wp2_with fail
    refine (awake06_any _).mono ?_
    rintro e w9 ⟨rfl, hb9⟩
    go_wp2_with fail
    go_ret
    exact ⟨rfl, z.out.trans (hb9.mono z.out.size)⟩
  have d0 : decide ((400 : Int) < (b.cl : Int)) = false := decide_eq_false (by omega)
  have f0 : decide (400 < b.cl) = false := decide_eq_false (by omega)
  by_cases c1 : x.cl ≤ 400
  case neg =>
    have d1 : decide ((400 : Int) < (x.cl : Int)) = true := decide_eq_true (by omega)
    have f1 : decide (400 < x.cl) = true := decide_eq_true (by omega)
    go_enter Try.func6, Try.ntmps6
    go_upto_region 1 with (fail)
    rw [hwA.out, hwB.out]
    go_wp2_with fail
    refine (awake06_any _).mono ?_
    rintro e w9 ⟨rfl, hb9⟩
    go_wp2_with fail
    go_ret
    exact ⟨rfl, z.out.trans (hb9.mono z.out.size)⟩
  have d1 : decide ((400 : Int) < (x.cl : Int)) = false := decide_eq_false (by omega)
  have f1 : decide (400 < x.cl) = false := decide_eq_false (by omega)
  by_cases c2 : b.sl ≤ 9
  case neg =>
    have d2 : decide ((9 : Int) < (b.sl : Int)) = true := decide_eq_true (by omega)
    have f2 : decide (9 < b.sl) = true := decide_eq_true (by omega)
    go_enter Try.func6, Try.ntmps6
    go_upto_region 1 with (fail)
    rw [hwA.out, hwB.out]
    go_wp2_with fail
    refine (awake06_any _).mono ?_
    rintro e w9 ⟨rfl, hb9⟩
    go_wp2_with fail
    go_ret
    exact ⟨rfl, z.out.trans (hb9.mono z.out.size)⟩
  have d2 : decide ((9 : Int) < (b.sl : Int)) = false := decide_eq_false (by omega)
  have f2 : decide (9 < b.sl) = false := decide_eq_false (by omega)
  by_cases c3 : x.sl ≤ 9
  case neg =>
    have d3 : decide ((9 : Int) < (x.sl : Int)) = true := decide_eq_true (by omega)
    have f3 : decide (9 < x.sl) = true := decide_eq_true (by omega)
    go_enter Try.func6, Try.ntmps6
    go_upto_region 1 with (fail)
    rw [hwA.out, hwB.out]
    go_wp2_with fail
    refine (awake06_any _).mono ?_
    rintro e w9 ⟨rfl, hb9⟩
    go_wp2_with fail
    go_ret
    exact ⟨rfl, z.out.trans (hb9.mono z.out.size)⟩
  have d3 : decide ((9 : Int) < (x.sl : Int)) = false := decide_eq_false (by omega)
  have f3 : decide (9 < x.sl) = false := decide_eq_false (by omega)
  have RB := fun w1 (h : Below wB.heap.size wB w1) => rright_any b.sa b.sl b.sc b.ss b.ca b.cl b.cc w1 (hb.out.1.kept h) (by omega)
  have RX := fun w1 (h : Below wB.heap.size wB w1) => rright_any x.sa x.sl x.sc x.ss x.ca x.cl x.cc w1 (hx.out.1.kept h) (by omega)
  have SM := fun w1 (h : Below wB.heap.size wB w1) => same_any b.sa b.sl b.sc b.ss x.sa x.sl x.sc x.ss w1 (hb.out.1.kept h) (hx.out.1.kept h)
  cases ha : alikeT x.ss x.cl b.ss b.cl
  · have DB := dbias_no b x wB hb.out hx.out ha
    have DB' := Lib.hid DB
    have hal : (rightT b.ss b.cl = true → rightT x.ss x.cl = true → sameL b.ss x.ss = false) := by
      intro q1 q2
      unfold alikeT at ha
      rw [q1, q2] at ha
      cases q3 : sameL b.ss x.ss
      · rfl
      · have e := sameL_eq q3
        rw [e, sameL_self] at ha
        simp at ha
    have HAL := Lib.hid hal
    clear DB hal ha
    go_enter Try.func6, Try.ntmps6
    go_upto_region 1 with (fail)
    rw [hwA.out, hwB.out]
    go_wp2_with fail
    refine DB'.out.mono ?_
    rintro e w1 ⟨rfl, hb1⟩
    obtain ⟨wC, hwC, J3, zC, nC⟩ := grid_box w1 (.slice none 0 0) (.slice none 0 0)
    have bC := Lib.hid (hb1.trans (zC.out.mono hb1.size))
    clear j0 j1 i0 i1 DB' hb1
    go_upto_region 4 with (fail)
    rw [hwC.out]
    obtain ⟨j0, j1, -, -⟩ := (J1'.out.kept bC.out).see
    go_wp2_with fail
    cases q1 : rightT b.ss b.cl
    · simp only [q1] at RB
      have RB' := Lib.hid RB
      clear RB RX SM q1
      refine (RB'.out wC bC.out).mono ?_
      rintro e w2 ⟨rfl, hb2⟩
      have b2 := Lib.hid (bC.out.trans (hb2.mono bC.out.size))
      obtain ⟨l0, l1, -, -⟩ := (J3.out.kept hb2).see
      clear j0 j1
      go_wp2_with fail
      have b2z := Lib.hid (z.out.trans (b2.out.mono z.out.size))
      refine (awake06_any _).mono ?_
      rintro e w9 ⟨rfl, hb9⟩
      go_wp2_with fail
      go_ret
      exact ⟨rfl, b2z.out.trans (hb9.mono b2z.out.size)⟩
    simp only [q1] at RB
    have RB' := Lib.hid RB
    clear RB
    refine (RB'.out wC bC.out).mono ?_
    rintro e w2 ⟨rfl, hb2⟩
    have b2 := Lib.hid (bC.out.trans (hb2.mono bC.out.size))
    have J3b := Lib.hid (J3.out.kept hb2)
    clear j0 j1 hb2 RB'
    obtain ⟨i0, i1, -, -⟩ := (J2.out.kept b2.out).see
    go_wp2_with fail
    cases q2 : rightT x.ss x.cl
    · simp only [q2] at RX
      have RX' := Lib.hid RX
      clear RX SM q2
      refine (RX'.out w2 b2.out).mono ?_
      rintro e w3 ⟨rfl, hb3⟩
      have b3 := Lib.hid (b2.out.trans (hb3.mono b2.out.size))
      obtain ⟨l0, l1, -, -⟩ := (J3b.out.kept hb3).see
      clear i0 i1
      go_wp2_with fail
      have b3z := Lib.hid (z.out.trans (b3.out.mono z.out.size))
      refine (awake06_any _).mono ?_
      rintro e w9 ⟨rfl, hb9⟩
      go_wp2_with fail
      go_ret
      exact ⟨rfl, b3z.out.trans (hb9.mono b3z.out.size)⟩
    simp only [q2] at RX
    have RX' := Lib.hid RX
    clear RX
    refine (RX'.out w2 b2.out).mono ?_
    rintro e w3 ⟨rfl, hb3⟩
    have b3 := Lib.hid (b2.out.trans (hb3.mono b2.out.size))
    have J3c := Lib.hid (J3b.out.kept hb3)
    clear i0 i1 hb3 RX'
    have q3 := HAL.out q1 q2
    simp only [q3] at SM
    have SM' := Lib.hid SM
    clear SM q1 q2 q3
    obtain ⟨j0, j1, -, -⟩ := (J1'.out.kept b3.out).see
    obtain ⟨i0, i1, -, -⟩ := (J2.out.kept b3.out).see
    go_wp2_with fail
    refine (SM'.out w3 b3.out).mono ?_
    rintro e w4 ⟨rfl, nq, rfl⟩
    have b4 := Lib.hid (below_drewN' b3.out nq)
    obtain ⟨l0, l1, -, -⟩ := (J3c.out.kept (below_drewN' (Below.refl _ _) nq)).see
    clear j0 j1 i0 i1
    go_wp2_with fail
    have b4z := Lib.hid (z.out.trans (b4.out.mono z.out.size))
    refine (awake06_any _).mono ?_
    rintro e w9 ⟨rfl, hb9⟩
    go_wp2_with fail
    go_ret
    exact ⟨rfl, b4z.out.trans (hb9.mono b4z.out.size)⟩
  · obtain ⟨p1, p2, p3, p4⟩ := alikeT_parts ha
    have DB' := Lib.hid (dbias_ok b x wB hb.out hx.out ha (by omega) (by omega))
    have RB' := Lib.hid RB
    rw [p2] at RB'
    rw [p1] at RX
    have RX' := Lib.hid RX
    rw [p3, sameL_self] at SM
    have SM' := Lib.hid SM
    have hPL := Lib.hid p4
    obtain ⟨xs, hxs⟩ : ∃ xs, addL x.cs b.cs = xs := ⟨_, rfl⟩
    have hcl := hx.out.2.1.1
    have hbl := hb.out.2.1.1
    have hxl : Hid (xs.length = x.cl) := Lib.hid (by rw [← hxs, addL_length (by omega)]; exact hcl)
    have hfx := Lib.hid (show Fits xs by rw [← hxs]; exact addL_fits _ _)
    have HG := Lib.hid (fun k (hk : k < x.cl) => (by rw [← hxs]; exact addL_get (by omega) (by omega) : xs.getD k 0 = sat (x.cs.getD k 0 + b.cs.getD k 0)))
    rw [hxs] at DB'
    have CX := Lib.hid (fun w1 (h : Below wB.heap.size wB w1) => hx.out.2.1.kept h)
    have CB := Lib.hid (fun w1 (h : Below wB.heap.size wB w1) => hb.out.2.1.kept h)
    obtain ⟨xb, xo, hxa⟩ : ∃ xb xo, x.ca = some ⟨xb, xo, none⟩ := by
      rcases hx.out.2.1.2.2.2 with h4 | ⟨b', off, hq, hc⟩
      · have := rightT_pos p1; omega
      · exact ⟨b', off, hq⟩
    obtain ⟨bb, bo, hba⟩ : ∃ bb bo, b.ca = some ⟨bb, bo, none⟩ := by
      rcases hb.out.2.1.2.2.2 with h4 | ⟨b', off, hq, hc⟩
      · have := rightT_pos p1; omega
      · exact ⟨b', off, hq⟩
    obtain ⟨ln, hln⟩ : ∃ ln, x.cl = ln := ⟨_, rfl⟩
    have hbln : b.cl = ln := by omega
    have hln4 : ln ≤ 400 := by omega
    have hln1 : 0 < ln := by have := rightT_pos p1; omega
    have hS := Lib.hid (fun w1 (h : Below wB.heap.size wB w1) => hx.out.1.kept h)
    clear c0 c1 d0 d1 f0 f1 ha p1 p2 p3 p4 hcl hbl RB RX SM hxs
    rw [hxa, hln] at DB' RX' CX i1 J2 hwB ⊢
    rw [hba, hbln] at DB' RB' CB j1 J1' hwA ⊢
    rw [hln] at hxl HG
    clear hxa hba hln hbln hPL
    have d0 : decide ((400 : Int) < (ln : Int)) = false := decide_eq_false (by omega)
    have f0 : decide (400 < ln) = false := decide_eq_false (by omega)
    go_enter Try.func6, Try.ntmps6
    go_upto_region 1 with (fail)
    rw [hwA.out, hwB.out]
    go_wp2_with fail
    refine DB'.out.mono ?_
    rintro e w1 ⟨v', rfl, Y, yc, Y', yc', rfl, o1, o2, -, hb1⟩
    obtain ⟨wC, hwC, J3, zC, nC⟩ := grid_box w1 (.slice Y x.sl yc) (.slice Y' ln yc')
    have bC := Lib.hid (hb1.trans (zC.out.mono hb1.size))
    have TY := Lib.hid (show TV.At ⟨Y, x.sl, yc, x.ss, Y', ln, yc', xs⟩ wC from ⟨(row_ints o1 (show x.sl ≤ 9223372036854775807 by omega) (hS.out wB (Below.refl _ _)).2.2.1).kept zC.out, (row_ints o2 (show ln ≤ 9223372036854775807 by omega) hfx.out).kept zC.out, by show x.sl ≤ 17592186044416; omega, by show ln ≤ 17592186044416; omega⟩)
    clear j0 j1 i0 i1 DB' hb1 o1 o2
    go_upto_region 4 with (fail)
    rw [hwC.out]
    obtain ⟨j0, j1, -, -⟩ := (J1'.out.kept bC.out).see
    go_wp2_with fail
    refine (RB'.out wC bC.out).mono ?_
    rintro e w2 ⟨rfl, hb2⟩
    have b2 := Lib.hid (bC.out.trans (hb2.mono bC.out.size))
    have k2 := Lib.hid hb2
    clear j0 j1 hb2
    obtain ⟨i0, i1, -, -⟩ := (J2.out.kept b2.out).see
    go_wp2_with fail
    refine (RX'.out w2 b2.out).mono ?_
    rintro e w3 ⟨rfl, hb3⟩
    have b3 := Lib.hid (b2.out.trans (hb3.mono b2.out.size))
    have k3 := Lib.hid (k2.out.trans (hb3.mono k2.out.size))
    clear i0 i1 hb3
    obtain ⟨j0, j1, -, -⟩ := (J1'.out.kept b3.out).see
    obtain ⟨i0, i1, -, -⟩ := (J2.out.kept b3.out).see
    go_wp2_with fail
    refine (SM'.out w3 b3.out).mono ?_
    rintro e w4 ⟨rfl, nq, rfl⟩
    have b4 := Lib.hid (below_drewN' b3.out nq)
    have k4 := Lib.hid (below_drewN' k3.out nq)
    clear j0 j1 i0 i1 b2 b3 k2 k3 RB' RX' SM'
    obtain ⟨W4, hW4⟩ : ∃ W4, w3.drewN nq = W4 := ⟨_, rfl⟩
    rw [hW4] at b4 k4 ⊢
    clear hW4
    obtain ⟨j0, j1, -, -⟩ := (J1'.out.kept b4.out).see
    go_wp2_with fail
    clear j0 j1
    go_loopw [7, 68] (fun t i wr => ∃ k : Nat, k ≤ ln ∧ i = .int .i64 k ∧ Hid (wr.ownsRow W4.heap.size 2 1 t k ((xs.take k).map (Value.int .i64))) ∧ Hid (Below W4.heap.size W4 wr)) (fun _ i _ => ln - (intOf i).toNat)
    case atStart => exact ⟨0, Nat.zero_le _, rfl, Lib.hid (by rw [List.take_zero]; exact World.ownsRow_nil _ _ _ _), Lib.hid (Below.refl _ _)⟩
    case round =>
      obtain ⟨k, hk, rfl, hrow, hbr⟩ := hrel
      have BR := Lib.hid (fun w1 (h : Below W4.heap.size W4 w1) => b4.out.trans (h.mono b4.out.size))
      by_cases hlt : k < ln
      · have hs := HG.out k hlt
        have hst := take_one (xs := xs) (k := k) (by rw [hxl.out]; exact hlt)
        rw [hs] at hst
        obtain ⟨y1, y2⟩ := (CX.out wB (Below.refl _ _)).2.2.1.getD k
        obtain ⟨z1', z2'⟩ := (CB.out wB (Below.refl _ _)).2.2.1.getD k
        have QX := fun w1 (h : Below W4.heap.size W4 w1) => at_cell (CX.out w1 (BR.out w1 h)) hlt
        have QB := fun w1 (h : Below W4.heap.size W4 w1) => at_cell (CB.out w1 (BR.out w1 h)) hlt
        obtain ⟨y, hy⟩ : ∃ y, x.cs.getD k 0 = y := ⟨_, rfl⟩
        obtain ⟨v, hv⟩ : ∃ v, b.cs.getD k 0 = v := ⟨_, rfl⟩
        rw [hy] at hst y1 y2
        rw [hv] at hst z1' z2'
        simp only [hy] at QX
        simp only [hv] at QB
        have AA := fun w => refadd_any y v w y1 y2 z1' z2'
        have hp12 := Lib.hid (sat_bounds (y + v))
        obtain ⟨p, hp⟩ : ∃ p, sat (y + v) = p := ⟨_, rfl⟩
        rw [hp] at hst hp12
        simp only [hp] at AA
        have A1 := Lib.hid AA
        have HST := Lib.hid hst
        have SX := Lib.hid (fun w' (h : Below W4.heap.size W4 w') => (⟨((J2.out.kept (BR.out w' h)).see).2.1, ((J1'.out.kept (BR.out w' h)).see).2.1, QX w' h, QB w' h⟩ : w'.cell? ⟨w.heap.size + 1, 1, none⟩ = some (.slice (some ⟨xb, xo, none⟩) ln x.cc) ∧ w'.cell? ⟨w.heap.size, 1, none⟩ = some (.slice (some ⟨bb, bo, none⟩) ln b.cc) ∧ w'.cell? ⟨xb, xo + k, none⟩ = some (.int .i64 y) ∧ w'.cell? ⟨bb, bo + k, none⟩ = some (.int .i64 v)))
        clear AA hst hs hy hv hp y1 y2 z1' z2' QX QB
        go_wp2_with fail
        have SK := Lib.hid (fun w' (hb : Below W4.heap.size W4 w') => (show w'.cell? ⟨w.heap.size + 1, 1, none⟩ = some (.slice (some ⟨xb, xo, none⟩) ln x.cc) ∧ w'.cell? ⟨xb, xo + k, none⟩ = some (.int .i64 y) ∧ w'.cell? ⟨w.heap.size, 1, none⟩ = some (.slice (some ⟨bb, bo, none⟩) ln b.cc) ∧ w'.cell? ⟨bb, bo + k, none⟩ = some (.int .i64 v) from ⟨(SX.out w' hb).1, (SX.out w' hb).2.2.1, (SX.out w' hb).2.1, (SX.out w' hb).2.2.2⟩))
        have t1 := Lib.hid (show Below wr.heap.size wr wr.drew from (Below.refl _ _).drew)
        refine wp_region_held_drew (S := fun w' => w'.cell? ⟨w.heap.size + 1, 1, none⟩ = some (.slice (some ⟨xb, xo, none⟩) ln x.cc) ∧ w'.cell? ⟨xb, xo + k, none⟩ = some (.int .i64 y) ∧ w'.cell? ⟨w.heap.size, 1, none⟩ = some (.slice (some ⟨bb, bo, none⟩) ln b.cc) ∧ w'.cell? ⟨bb, bo + k, none⟩ = some (.int .i64 v)) (by kernel_rfl) (SK.out _ (hbr.out.trans (t1.out.mono hbr.out.size))) (fun hHeld => ?_)
        refine held_take 0 (u7) rfl (by kernel_rfl) (by kernel_rfl) (by kernel_rfl) (fun _ _ _ h => h) (by rfl) (by intro w' hS; go_simp) (by assumption) ?_
        try simp only [Act.put, List.setIfInBounds_toArray, List.set_cons_zero, List.set_cons_succ]
        refine held_take 1 (.pointer (some ⟨w.heap.size + 1, 1, none⟩)) rfl (by kernel_rfl) (by kernel_rfl) (by kernel_rfl) (fun _ _ _ h => h) (by rfl) (by intro w' hS; go_simp) (by assumption) ?_
        try simp only [Act.put, List.setIfInBounds_toArray, List.set_cons_zero, List.set_cons_succ]
        refine held_take 2 (.slice (some ⟨xb, xo, none⟩) ln x.cc) rfl (by kernel_rfl) (by kernel_rfl) (by kernel_rfl) (fun _ _ _ h => h) (by rfl) (by intro w' hS; go_simp) (by assumption) ?_
        try simp only [Act.put, List.setIfInBounds_toArray, List.set_cons_zero, List.set_cons_succ]
        refine held_take 3 (.int .i64 k) rfl (by kernel_rfl) (by kernel_rfl) (by kernel_rfl) (fun _ _ _ h => h) (by rfl) (by intro w' hS; go_simp) (by assumption) ?_
        try simp only [Act.put, List.setIfInBounds_toArray, List.set_cons_zero, List.set_cons_succ]
        refine held_take 4 (.pointer (some ⟨xb, xo + k, none⟩)) rfl (by kernel_rfl) (by kernel_rfl) (by kernel_rfl) (fun _ _ _ h => h) (by rfl) (by intro w' hS; go_simp) (by assumption) ?_
        try simp only [Act.put, List.setIfInBounds_toArray, List.set_cons_zero, List.set_cons_succ]
        refine held_take 5 (.int .i64 y) rfl (by kernel_rfl) (by kernel_rfl) (by kernel_rfl) (fun _ _ _ h => h) (by rfl) (by intro w' hS; go_simp) (by assumption) ?_
        try simp only [Act.put, List.setIfInBounds_toArray, List.set_cons_zero, List.set_cons_succ]
        refine held_take 6 (.pointer (some ⟨w.heap.size, 1, none⟩)) rfl (by kernel_rfl) (by kernel_rfl) (by kernel_rfl) (fun _ _ _ h => h) (by rfl) (by intro w' hS; go_simp) (by assumption) ?_
        try simp only [Act.put, List.setIfInBounds_toArray, List.set_cons_zero, List.set_cons_succ]
        refine held_take 7 (.slice (some ⟨bb, bo, none⟩) ln b.cc) rfl (by kernel_rfl) (by kernel_rfl) (by kernel_rfl) (fun _ _ _ h => h) (by rfl) (by intro w' hS; go_simp) (by assumption) ?_
        try simp only [Act.put, List.setIfInBounds_toArray, List.set_cons_zero, List.set_cons_succ]
        refine held_take 8 (.int .i64 k) rfl (by kernel_rfl) (by kernel_rfl) (by kernel_rfl) (fun _ _ _ h => h) (by rfl) (by intro w' hS; go_simp) (by assumption) ?_
        try simp only [Act.put, List.setIfInBounds_toArray, List.set_cons_zero, List.set_cons_succ]
        refine held_take 9 (.pointer (some ⟨bb, bo + k, none⟩)) rfl (by kernel_rfl) (by kernel_rfl) (by kernel_rfl) (fun _ _ _ h => h) (by rfl) (by intro w' hS; go_simp) (by assumption) ?_
        try simp only [Act.put, List.setIfInBounds_toArray, List.set_cons_zero, List.set_cons_succ]
        refine held_take 10 (.int .i64 v) rfl (by kernel_rfl) (by kernel_rfl) (by kernel_rfl) (fun _ _ _ h => h) (by rfl) (by intro w' hS; go_simp) (by assumption) ?_
        try simp only [Act.put, List.setIfInBounds_toArray, List.set_cons_zero, List.set_cons_succ]
        refine held_call 11 (by kernel_rfl) rfl (by rfl) (fun K hK => ?_)
        go_simp
        refine (A1.out _).mono ?_
        rintro e _ ⟨rfl, rfl⟩
        have bq1 := Lib.hid (t1.out.trans ((Below.refl _ _).mono t1.out.size))
        go_wp2_with fail
        refine hK.out _ _ (SK.out _ (hbr.out.trans (bq1.out.mono hbr.out.size))) (fun hHeld => ?_)
        try simp only [Act.put, List.setIfInBounds_toArray, List.set_cons_zero, List.set_cons_succ]
        refine held_call 12 (by kernel_rfl) rfl (by rfl) (fun K hK => ?_)
        go_simp
        have hnw := IntsAt.made wr 2 [p] 1 rfl (by omega) (by intro n hn; rw [List.mem_singleton] at hn; subst hn; exact hp12.out)
        have hb : Below wr.heap.size wr (wr.alloc (.cells ([p].map (Value.int .i64)).toArray 2)).drew := ((Below.refl _ _).alloc (Nat.le_refl _) _).drew
        have hnw' : IntsAt (wr.alloc (.cells ([p].map (Value.int .i64)).toArray 2)).drew (some ⟨wr.heap.size, 0, none⟩) 1 [p] := hnw
        simp only [List.map_cons, List.map_nil] at hnw' hb
        clear hnw
        obtain ⟨wn, hnew⟩ : ∃ wn, (wr.alloc (.cells [Value.int .i64 p].toArray 2)).drew = wn := ⟨_, rfl⟩
        rw [hnew] at hnw' hb ⊢
        clear hnew
        have bq2 := Lib.hid hb
        clear hb
        refine hK.out _ _ (SK.out _ (hbr.out.trans (bq2.out.mono hbr.out.size))) (fun hHeld => ?_)
        try simp only [Act.put, List.setIfInBounds_toArray, List.set_cons_zero, List.set_cons_succ]
        have hrowq := Lib.hid (row_kept hrow.out bq2.out)
        have hbq := Lib.hid (hbr.out.trans (bq2.out.mono hbr.out.size))
        refine held_call 13 (by kernel_rfl) rfl (by rfl) (fun K hK => ?_)
        refine wp_append_ints _ _ 35 2 rfl Try.underlying35 (by kernel_rfl) W4.heap.size _ k (xs.take k) rfl hrowq.out _ 1 1 [p] rfl hnw' (fun e => by cases e) (by omega) hbq.out.size ?_
        rintro v5 w5 o5 g5 -
        rw [← HST.out] at o5
        have hb5 := Lib.hid (hbq.out.grown g5 hbq.out.size (fun q hq => (hrowq.out.lt q hq).1))
        have o5' := Lib.hid o5
        have SS5 := SK.out _ hb5.out
        clear o5 g5 hnw'
        refine hK.out _ _ SS5 (fun hHeld => ?_)
        try simp only [Act.put, List.setIfInBounds_toArray, List.set_cons_zero, List.set_cons_succ]
        refine held_take 14 (v5) rfl (by kernel_rfl) (by kernel_rfl) (by kernel_rfl) (fun _ _ _ h => h) (by rfl) (by intro w' hS; go_simp) (by assumption) ?_
        try simp only [Act.put, List.setIfInBounds_toArray, List.set_cons_zero, List.set_cons_succ]
        refine wpAnyH_done (by kernel_rfl) ?_ _
        go_wp2_with fail
        go_roundw
        case rel => exact ⟨k + 1, by omega, by go_num, o5', hb5⟩
        case measure => (simp [intOf]; try omega)
      · obtain rfl : k = ln := by omega
        rw [List.take_of_length_le (by rw [hxl.out]; omega)] at hrow
        obtain ⟨g, c, hv⟩ := Joins.ownsRow_form hrow.out hln1
        subst hv
        have IW := Lib.hid (row_ints hrow.out (show k ≤ 9223372036854775807 by omega) hfx.out)
        have J3r := Lib.hid ((J3.out.kept k4.out).kept hbr.out)
        have TYr := Lib.hid ((TY.out.kept k4.out).kept hbr.out)
        have J2r := Lib.hid (J2.out.kept (BR.out wr hbr.out))
        have Sr := Lib.hid (hS.out wr (BR.out wr hbr.out))
        obtain ⟨q0, q1, -, -⟩ := J3r.out.see
        obtain ⟨i0, i1, -, -⟩ := J2r.out.see
        go_wp2_with fail
        refine (same6_any ⟨Y, x.sl, yc, x.ss, Y', k, yc', xs⟩ x.sa x.sl x.sc (some ⟨g, 0, none⟩) c wr TYr.out Sr.out IW.out).mono ?_
        rintro e w8 ⟨rfl, hb8⟩
        have b8 := Lib.hid (BR.out w8 (hbr.out.trans (hb8.mono hbr.out.size)))
        have b8z := Lib.hid (z.out.trans (b8.out.mono z.out.size))
        clear q0 q1 i0 i1 hb8
        go_wp2_with fail
        refine (awake06_any _).mono ?_
        rintro e w9 ⟨rfl, hb9⟩
        go_wp2_with fail
        go_ret
        exact ⟨rfl, b8z.out.trans (hb9.mono b8z.out.size)⟩

theorem denseBias_walk (b x : TV) (w : World) (hb : b.At w) (hbc : b.Cap) (hx : x.At w) (hxc : x.Cap) :
    Calls Try.prog 6 #[.agg #[.slice b.sa b.sl b.sc, .slice b.ca b.cl b.cc], .agg #[.slice x.sa x.sl x.sc, .slice x.ca x.cl x.cc]] w fun e w' => e = .returned (.bool true) ∧ Below w.heap.size w w' := denseBias_core b x w hb hx
end Go.Proofs.Ytlpecdfiagklpaa
