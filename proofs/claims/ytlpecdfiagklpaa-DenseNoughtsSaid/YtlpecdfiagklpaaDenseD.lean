/-
  The contract of package dense's Back.
-/
import Derived.Test.YtlpecdfiagklpaaDenseC
namespace Go.Proofs.Ytlpecdfiagklpaa
open Go.RowKit
set_option linter.unusedVariables false
set_option linter.unusedSimpArgs false

/-- A block holds three tensors. -/
def GrAt (w : World) (K : Nat) (a b c d e f : Value) : Prop := w.heap[K]? = some (.cells #[a, b, c, d, e, f] 39 (0, 0))
section
variable {w w' : World} {K : Nat} {a b c d e f : Value}
theorem GrAt.lt (h : GrAt w K a b c d e f) : K < w.heap.size := (Array.getElem?_eq_some_iff.1 h).1
theorem GrAt.kept (h : GrAt w K a b c d e f) (hb : Below w.heap.size w w') : GrAt w' K a b c d e f := (hb.block K h.lt).trans h
theorem GrAt.below {n : Nat} (h : GrAt w K a b c d e f) (hb : Below n w w') (hn : K < n) : GrAt w' K a b c d e f := (hb.block K hn).trans h
theorem GrAt.saved {s : Nat → Prop} (h : GrAt w K a b c d e f) (hs : Save s w w') (hn : ¬ s K) : GrAt w' K a b c d e f := (hs.block K h.lt hn).trans h
theorem GrAt.see (h : GrAt w K a b c d e f) : w.cell? ⟨K, 0, none⟩ = some a ∧ w.cell? ⟨K, 1, none⟩ = some b ∧ w.cell? ⟨K, 2, none⟩ = some c ∧ w.cell? ⟨K, 3, none⟩ = some d ∧ w.cell? ⟨K, 4, none⟩ = some e ∧ w.cell? ⟨K, 5, none⟩ = some f := by
  refine ⟨?_, ?_, ?_, ?_, ?_, ?_⟩ <;> (rw [Joins.cell_of_block h]; rfl)
theorem GrAt.live (h : GrAt w K a b c d e f) : w.frozen? ⟨K, 0, none⟩ = false ∧ w.frozen? ⟨K, 1, none⟩ = false ∧ w.frozen? ⟨K, 2, none⟩ = false ∧ w.frozen? ⟨K, 3, none⟩ = false ∧ w.frozen? ⟨K, 4, none⟩ = false ∧ w.frozen? ⟨K, 5, none⟩ = false :=
  ⟨Joins.unfrozen_of_block h 0, Joins.unfrozen_of_block h 1, Joins.unfrozen_of_block h 2, Joins.unfrozen_of_block h 3, Joins.unfrozen_of_block h 4, Joins.unfrozen_of_block h 5⟩
/-- The world behind a store of three tensors. -/
def gset (w : World) (K : Nat) (a b c d e f : Value) : World := (((((w.setCell ⟨K, 0, none⟩ a).setCell ⟨K, 1, none⟩ b).setCell ⟨K, 2, none⟩ c).setCell ⟨K, 3, none⟩ d).setCell ⟨K, 4, none⟩ e).setCell ⟨K, 5, none⟩ f
theorem GrAt.set (h : GrAt w K a b c d e f) (a' b' c' d' e' f' : Value) : GrAt (gset w K a' b' c' d' e' f') K a' b' c' d' e' f' :=
  Joins.block_setCell (Joins.block_setCell (Joins.block_setCell (Joins.block_setCell (Joins.block_setCell (Joins.block_setCell (i := 0) h a') (i := 1) b') (i := 2) c') (i := 3) d') (i := 4) e') (i := 5) f'
theorem gset_below {n : Nat} (hb : Below n w w') (hK : n ≤ K) : Below n w (gset w' K a b c d e f) :=
  (((((hb.setCell hK _).setCell hK _).setCell hK _).setCell hK _).setCell hK _).setCell hK _
end
theorem grads_box (w : World) (a b c d e f : Value) : ∃ wB, Hid (w.alloc (.cells #[a, b, c, d, e, f] 39) = wB) ∧ Hid (GrAt wB w.heap.size a b c d e f) ∧ Hid (Below w.heap.size w wB) ∧ Hid (wB.heap.size = w.heap.size + 1) :=
  ⟨_, Lib.hid rfl, Lib.hid (World.alloc_heap_new w _), Lib.hid ((Below.refl _ _).alloc (Nat.le_refl _) _), Lib.hid (by simp)⟩

/-- No gradients and this error. -/
def NilD (w : World) (x : Int) (e : Ending) (w' : World) : Prop := e = .returned (.tuple #[.agg #[.slice none 0 0, .slice none 0 0, .slice none 0 0, .slice none 0 0, .slice none 0 0, .slice none 0 0], .int .i64 x]) ∧ Below w.heap.size w w'

set_option maxRecDepth 100000 in
set_option maxHeartbeats 2000000 in
theorem dback_no1 (W B x G : TV) (w : World) (hW : W.At w) (hB : B.At w) (hx : x.At w) (hF : fitT W.ss W.cl B.ss B.cl x.ss x.cl = false) :
    Calls Try.prog 15 #[.agg #[.slice W.sa W.sl W.sc, .slice W.ca W.cl W.cc], .agg #[.slice B.sa B.sl B.sc, .slice B.ca B.cl B.cc], .agg #[.slice x.sa x.sl x.sc, .slice x.ca x.cl x.cc], .agg #[.slice G.sa G.sl G.sc, .slice G.ca G.cl G.cc]] w (NilD w 20) := by
  obtain ⟨wA, hwA, J1, z1, n1⟩ := grid_box w (.slice W.sa W.sl W.sc) (.slice W.ca W.cl W.cc)
  obtain ⟨wB, hwB, J2, z2, n2⟩ := grid_box wA (.slice B.sa B.sl B.sc) (.slice B.ca B.cl B.cc)
  obtain ⟨wC, hwC, J3, z3, n3⟩ := grid_box wB (.slice x.sa x.sl x.sc) (.slice x.ca x.cl x.cc)
  obtain ⟨wD, hwD, J4, z4, n4⟩ := grid_box wC (.slice G.sa G.sl G.sc) (.slice G.ca G.cl G.cc)
  obtain ⟨wR, hwR, J5, z5, n5⟩ := grads_box wD (.slice none 0 0) (.slice none 0 0) (.slice none 0 0) (.slice none 0 0) (.slice none 0 0) (.slice none 0 0)
  rw [n1.out] at J2
  rw [n2.out, n1.out] at J3
  rw [n3.out, n2.out, n1.out] at J4
  rw [n4.out, n3.out, n2.out, n1.out] at J5
  have z12 := z1.out.trans (z2.out.mono z1.out.size)
  have z13 := z12.trans (z3.out.mono z12.size)
  have z14 := z13.trans (z4.out.mono z13.size)
  have z := Lib.hid (z14.trans (z5.out.mono z14.size))
  have J1' := Lib.hid ((((J1.out.kept z2.out).kept z3.out).kept z4.out).kept z5.out)
  have J2' := Lib.hid (((J2.out.kept z3.out).kept z4.out).kept z5.out)
  have J3' := Lib.hid ((J3.out.kept z4.out).kept z5.out)
  have J4' := Lib.hid (J4.out.kept z5.out)
  have nR : Hid (wR.heap.size = w.heap.size + 5) := Lib.hid (by rw [n5.out, n4.out, n3.out, n2.out, n1.out])
  clear z12 z13 z14 J1 J2 J3 J4 z1 z2 z3 z4 z5 n1 n2 n3 n4 n5
  have C := fit_any W B x wR (hW.kept z.out) (hB.kept z.out) (hx.kept z.out)
  rw [hF] at C
  have C1 := Lib.hid C
  clear C hW hB hx hF
  obtain ⟨j0, j1, -, -⟩ := (J1'.out).see
  obtain ⟨i0, i1, -, -⟩ := (J2'.out).see
  obtain ⟨k0, k1, -, -⟩ := (J3'.out).see
  obtain ⟨l0, l1, -, -⟩ := (J4'.out).see
  go_enter Try.func15, Try.ntmps15
  go_upto_region 1 with (fail)
  rw [hwA.out, hwB.out, hwC.out, hwD.out, hwR.out]
  go_wp2_with fail
  refine C1.out.mono ?_
  rintro e w1 ⟨rfl, hb1⟩
  have hbL := Lib.hid hb1
  clear j0 j1 i0 i1 k0 k1 l0 l1
  obtain ⟨e0, e1, e2, e3, e4, e5⟩ := (J5.out.kept hbL.out).see
  obtain ⟨f0, f1, f2, f3, f4, f5⟩ := (J5.out.kept hbL.out).live
  obtain ⟨h0, h1, h2, h3, h4, h5⟩ := ((J5.out.kept hbL.out).set (.slice none 0 0) (.slice none 0 0) (.slice none 0 0) (.slice none 0 0) (.slice none 0 0) (.slice none 0 0)).see
  have Z := gset_below (a := .slice none 0 0) (b := .slice none 0 0) (c := .slice none 0 0) (d := .slice none 0 0) (e := .slice none 0 0) (f := .slice none 0 0) (z.out.trans (hbL.out.mono z.out.size)) (show w.heap.size ≤ w.heap.size + 1 + 1 + 1 + 1 by omega)
  simp only [gset] at h0 h1 h2 h3 h4 h5 Z
  go_wp2_with fail
  refine bodyPost_ret (v := .tuple #[.agg #[.slice none 0 0, .slice none 0 0, .slice none 0 0, .slice none 0 0, .slice none 0 0, .slice none 0 0], .int .i64 20]) ?_ rfl ⟨rfl, Z⟩
  simp [results, Try.results15, go_sem, h0, h1, h2, h3, h4, h5]

set_option maxRecDepth 100000 in
set_option maxHeartbeats 2000000 in
theorem dback_no2 (W B x G : TV) (w : World) (hW : W.At w) (hB : B.At w) (hx : x.At w) (hG : G.At w) (hF : fitT W.ss W.cl B.ss B.cl x.ss x.cl = true) (hO : outT (W.ss.getD 0 0) G.ss G.cl = false) :
    Calls Try.prog 15 #[.agg #[.slice W.sa W.sl W.sc, .slice W.ca W.cl W.cc], .agg #[.slice B.sa B.sl B.sc, .slice B.ca B.cl B.cc], .agg #[.slice x.sa x.sl x.sc, .slice x.ca x.cl x.cc], .agg #[.slice G.sa G.sl G.sc, .slice G.ca G.cl G.cc]] w (NilD w 20) := by
  have hs : 0 < W.sl := by have := hW.1.1; rw [(fitT_facts hF).1] at this; simp at this; omega
  obtain ⟨wA, hwA, J1, z1, n1⟩ := grid_box w (.slice W.sa W.sl W.sc) (.slice W.ca W.cl W.cc)
  obtain ⟨wB, hwB, J2, z2, n2⟩ := grid_box wA (.slice B.sa B.sl B.sc) (.slice B.ca B.cl B.cc)
  obtain ⟨wC, hwC, J3, z3, n3⟩ := grid_box wB (.slice x.sa x.sl x.sc) (.slice x.ca x.cl x.cc)
  obtain ⟨wD, hwD, J4, z4, n4⟩ := grid_box wC (.slice G.sa G.sl G.sc) (.slice G.ca G.cl G.cc)
  obtain ⟨wR, hwR, J5, z5, n5⟩ := grads_box wD (.slice none 0 0) (.slice none 0 0) (.slice none 0 0) (.slice none 0 0) (.slice none 0 0) (.slice none 0 0)
  rw [n1.out] at J2
  rw [n2.out, n1.out] at J3
  rw [n3.out, n2.out, n1.out] at J4
  rw [n4.out, n3.out, n2.out, n1.out] at J5
  have z12 := z1.out.trans (z2.out.mono z1.out.size)
  have z13 := z12.trans (z3.out.mono z12.size)
  have z14 := z13.trans (z4.out.mono z13.size)
  have z := Lib.hid (z14.trans (z5.out.mono z14.size))
  have J1' := Lib.hid ((((J1.out.kept z2.out).kept z3.out).kept z4.out).kept z5.out)
  have J2' := Lib.hid (((J2.out.kept z3.out).kept z4.out).kept z5.out)
  have J3' := Lib.hid ((J3.out.kept z4.out).kept z5.out)
  have J4' := Lib.hid (J4.out.kept z5.out)
  have nR : Hid (wR.heap.size = w.heap.size + 5) := Lib.hid (by rw [n5.out, n4.out, n3.out, n2.out, n1.out])
  clear z12 z13 z14 J1 J2 J3 J4 z1 z2 z3 z4 z5 n1 n2 n3 n4 n5
  have C := fit_any W B x wR (hW.kept z.out) (hB.kept z.out) (hx.kept z.out)
  have D := fun w1 (hb : Below wR.heap.size wR w1) => isout_any W G w1 ((hW.kept z.out).kept hb) ((hG.kept z.out).kept hb) hs
  rw [hF] at C
  rw [hO] at D
  have C1 := Lib.hid C
  have D1 := Lib.hid D
  clear C D hW hB hx hG hF hO hs
  obtain ⟨j0, j1, -, -⟩ := (J1'.out).see
  obtain ⟨i0, i1, -, -⟩ := (J2'.out).see
  obtain ⟨k0, k1, -, -⟩ := (J3'.out).see
  obtain ⟨l0, l1, -, -⟩ := (J4'.out).see
  go_enter Try.func15, Try.ntmps15
  go_upto_region 1 with (fail)
  rw [hwA.out, hwB.out, hwC.out, hwD.out, hwR.out]
  go_wp2_with fail
  refine C1.out.mono ?_
  rintro e w1 ⟨rfl, hb1⟩
  clear j0 j1 i0 i1 k0 k1 l0 l1
  obtain ⟨j0, j1, -, -⟩ := (J1'.out.kept hb1).see
  obtain ⟨i0, i1, -, -⟩ := (J2'.out.kept hb1).see
  obtain ⟨k0, k1, -, -⟩ := (J3'.out.kept hb1).see
  obtain ⟨l0, l1, -, -⟩ := (J4'.out.kept hb1).see
  go_wp2_with fail
  refine (D1.out w1 hb1).mono ?_
  rintro e w2 ⟨rfl, hb2⟩
  have hbL := Lib.hid (hb1.trans (hb2.mono hb1.size))
  clear j0 j1 i0 i1 k0 k1 l0 l1
  obtain ⟨e0, e1, e2, e3, e4, e5⟩ := (J5.out.kept hbL.out).see
  obtain ⟨f0, f1, f2, f3, f4, f5⟩ := (J5.out.kept hbL.out).live
  obtain ⟨h0, h1, h2, h3, h4, h5⟩ := ((J5.out.kept hbL.out).set (.slice none 0 0) (.slice none 0 0) (.slice none 0 0) (.slice none 0 0) (.slice none 0 0) (.slice none 0 0)).see
  have Z := gset_below (a := .slice none 0 0) (b := .slice none 0 0) (c := .slice none 0 0) (d := .slice none 0 0) (e := .slice none 0 0) (f := .slice none 0 0) (z.out.trans (hbL.out.mono z.out.size)) (show w.heap.size ≤ w.heap.size + 1 + 1 + 1 + 1 by omega)
  simp only [gset] at h0 h1 h2 h3 h4 h5 Z
  go_wp2_with fail
  refine bodyPost_ret (v := .tuple #[.agg #[.slice none 0 0, .slice none 0 0, .slice none 0 0, .slice none 0 0, .slice none 0 0, .slice none 0 0], .int .i64 20]) ?_ rfl ⟨rfl, Z⟩
  simp [results, Try.results15, go_sem, h0, h1, h2, h3, h4, h5]

end Go.Proofs.Ytlpecdfiagklpaa
