import Derived.Test.YtapelgjnnccfoaaJ00
import Derived.Test.YtapelgjnnccfoaaJ08
/-
  Package conv's Back: its boxes, and what it refuses.
-/
namespace Go.Proofs.Ytapelgjnnccfoaa
open Go.RowKit
set_option linter.unusedVariables false
set_option linter.unusedSimpArgs false

/-- A block that holds two tensors. -/
def GdAt (w : World) (K : Nat) (a b c d : Value) : Prop := w.heap[K]? = some (.cells #[a, b, c, d] 49 (0, 0))
section
variable {w w' : World} {K : Nat} {a b c d : Value}
theorem GdAt.lt (h : GdAt w K a b c d) : K < w.heap.size := (Array.getElem?_eq_some_iff.1 h).1
theorem GdAt.kept (h : GdAt w K a b c d) (hb : Below w.heap.size w w') : GdAt w' K a b c d := (hb.block K h.lt).trans h
theorem GdAt.see (h : GdAt w K a b c d) : w.cell? ⟨K, 0, none⟩ = some a ∧ w.cell? ⟨K, 1, none⟩ = some b ∧ w.cell? ⟨K, 2, none⟩ = some c ∧ w.cell? ⟨K, 3, none⟩ = some d := by
  refine ⟨?_, ?_, ?_, ?_⟩ <;> (rw [cell_of_row w K _ _ _ _ h]; rfl)
theorem GdAt.live (h : GdAt w K a b c d) : w.frozen? ⟨K, 0, none⟩ = false ∧ w.frozen? ⟨K, 1, none⟩ = false ∧ w.frozen? ⟨K, 2, none⟩ = false ∧ w.frozen? ⟨K, 3, none⟩ = false :=
  ⟨frozen_of_row w K 0 _ _ h, frozen_of_row w K 1 _ _ h, frozen_of_row w K 2 _ _ h, frozen_of_row w K 3 _ _ h⟩
def gdset (w : World) (K : Nat) (a b c d : Value) : World := (((w.setCell ⟨K, 0, none⟩ a).setCell ⟨K, 1, none⟩ b).setCell ⟨K, 2, none⟩ c).setCell ⟨K, 3, none⟩ d
theorem GdAt.set (h : GdAt w K a b c d) (a' b' c' d' : Value) : GdAt (gdset w K a' b' c' d') K a' b' c' d' := by
  have h1 := heap_setCell_same w K 0 _ _ a' h
  have h2 := heap_setCell_same _ K 1 _ _ b' h1
  have h3 := heap_setCell_same _ K 2 _ _ c' h2
  exact heap_setCell_same _ K 3 _ _ d' h3
theorem gdset_below {n : Nat} (hb : Below n w w') (hK : n ≤ K) : Below n w (gdset w' K a b c d) := (((hb.setCell (p := ⟨K, 0, none⟩) hK a).setCell (p := ⟨K, 1, none⟩) hK b).setCell (p := ⟨K, 2, none⟩) hK c).setCell (p := ⟨K, 3, none⟩) hK d
end
theorem gd_box (w : World) (a b c d : Value) : ∃ wB, Hid (w.alloc (.cells #[a, b, c, d] 49) = wB) ∧ Hid (GdAt wB w.heap.size a b c d) ∧ Hid (Below w.heap.size w wB) ∧ Hid (wB.heap.size = w.heap.size + 1) :=
  ⟨_, Lib.hid rfl, Lib.hid (World.alloc_heap_new w _), Lib.hid ((Below.refl _ _).alloc (Nat.le_refl _) _), Lib.hid (World.size_alloc w _)⟩

/-- No tensors, and an error. -/
def NilB (w : World) (x : Int) (e : Ending) (w' : World) : Prop := e = .returned (.tuple #[.agg #[.slice none 0 0, .slice none 0 0, .slice none 0 0, .slice none 0 0], .int .i64 x]) ∧ Below w.heap.size w w'
/-- Is what comes back of the answer's shape? -/
def gOk (G : TV) (os : List Int) : Bool := rightT G.ss G.cl && sameL G.ss os

set_option maxRecDepth 100000 in
set_option maxHeartbeats 2000000 in
theorem convback_no (W x G : TV) (s : Int) (w : World) (h : W.At w) (h' : x.At w) (hg : G.At w) (c1 : W.CapS) (c2 : x.CapS) (hs1 : -9223372036854775808 ≤ s) (hs2 : s ≤ 9223372036854775807) (hE : tensE W x s ≠ 0) :
    Calls Try.prog 20 #[.agg #[.slice W.sa W.sl W.sc, .slice W.ca W.cl W.cc], .agg #[.slice x.sa x.sl x.sc, .slice x.ca x.cl x.cc], .agg #[.slice G.sa G.sl G.sc, .slice G.ca G.cl G.cc], .int .i64 s] w (NilB w (tensE W x s)) := by
  obtain ⟨wA, hwA, J1, z1, n1⟩ := grid_box w (.slice W.sa W.sl W.sc) (.slice W.ca W.cl W.cc)
  obtain ⟨wB, hwB, J2, z2, n2⟩ := grid_box wA (.slice x.sa x.sl x.sc) (.slice x.ca x.cl x.cc)
  obtain ⟨wC, hwC, J3, z3, n3⟩ := grid_box wB (.slice G.sa G.sl G.sc) (.slice G.ca G.cl G.cc)
  obtain ⟨wD, hwD, J4, z4, n4⟩ := gd_box wC (.slice none 0 0) (.slice none 0 0) (.slice none 0 0) (.slice none 0 0)
  rw [n1.out] at J2
  rw [n2.out, n1.out] at J3
  rw [n3.out, n2.out, n1.out] at J4
  have z12 := z1.out.trans (z2.out.mono z1.out.size)
  have z13 := z12.trans (z3.out.mono z12.size)
  have z := Lib.hid (z13.trans (z4.out.mono z13.size))
  have J1' := Lib.hid (((J1.out.kept z2.out).kept z3.out).kept z4.out)
  have J2' := Lib.hid ((J2.out.kept z3.out).kept z4.out)
  have J3' := Lib.hid (J3.out.kept z4.out)
  have nC : Hid (wD.heap.size = w.heap.size + 4) := Lib.hid (by rw [n4.out, n3.out, n2.out, n1.out])
  clear z12 z13 J1 J2 J3 z1 z2 z3 n1 n2 n3
  have O := outshape_any W x s wD (h.kept z.out) (h'.kept z.out) c1 c2 hs1 hs2
  obtain ⟨j0, j1, -, -⟩ := J1'.out.see
  obtain ⟨i0, i1, -, -⟩ := J2'.out.see
  obtain ⟨l0, l1, -, -⟩ := J3'.out.see
  have O1 := Lib.hid (O.mono (fun e w' hh => hh.2 hE))
  obtain ⟨u, hu⟩ : ∃ u, tensE W x s = u := ⟨_, rfl⟩
  rw [hu] at O1 hE ⊢
  have hE' : ¬ u = 0 := hE
  clear O h h' hg c1 c2 hE hu l0 l1
  go_enter Try.func20, Try.ntmps20
  go_upto_region 1 with (fail)
  rw [hwA.out, hwB.out, hwC.out, hwD.out]
  go_wp2_with fail
  refine O1.out.mono ?_
  rintro e w1 ⟨rfl, hb⟩
  have J4' := J4.out.kept hb
  obtain ⟨e0, e1, e2, e3⟩ := J4'.see
  obtain ⟨f0, f1, f2, f3⟩ := J4'.live
  obtain ⟨h0, h1, h2, h3⟩ := (J4'.set (.slice none 0 0) (.slice none 0 0) (.slice none 0 0) (.slice none 0 0)).see
  have P := Lib.hid (gdset_below (a := .slice none 0 0) (b := .slice none 0 0) (c := .slice none 0 0) (d := .slice none 0 0) (z.out.trans (Below.mono hb z.out.size)) (show w.heap.size ≤ w.heap.size + 1 + 1 + 1 by omega))
  simp only [gdset] at h0 h1 h2 h3 P
  clear hb J4'
  go_wp2_with fail
  refine bodyPost_ret (v := .tuple #[.agg #[.slice none 0 0, .slice none 0 0, .slice none 0 0, .slice none 0 0], .int .i64 u]) ?_ rfl ⟨rfl, P.out⟩
  simp [results, Try.results20, go_sem, h0, h1, h2, h3]

set_option maxRecDepth 100000 in
set_option maxHeartbeats 4000000 in
theorem convback_bad (W x G : TV) (s : Int) (w : World) (h : W.At w) (h' : x.At w) (hg : G.At w) (c1 : W.CapS) (c2 : x.CapS) (hs1 : -9223372036854775808 ≤ s) (hs2 : s ≤ 9223372036854775807) (hE : tensE W x s = 0) (hG : gOk G (outS W.ss x.ss s) = false) :
    Calls Try.prog 20 #[.agg #[.slice W.sa W.sl W.sc, .slice W.ca W.cl W.cc], .agg #[.slice x.sa x.sl x.sc, .slice x.ca x.cl x.cc], .agg #[.slice G.sa G.sl G.sc, .slice G.ca G.cl G.cc], .int .i64 s] w (NilB w 20) := by
  have hx1 : 0 < x.ss.length := by
    by_cases c : rightT W.ss W.cl = true ∧ rightT x.ss x.cl = true
    · exact (rightS_parts (rightT_parts c.2).1).1
    · rw [tensE_no c] at hE; omega
  have hx4 : x.ss.length ≤ 17592186044416 := by have := h'.1.1; have := h'.2.2.1; omega
  have hform : formOk W.ss x.ss = true := by
    by_cases c : rightT W.ss W.cl = true ∧ rightT x.ss x.cl = true
    · rw [tensE_yes c.1 c.2] at hE; exact (told_parts hE).1
    · rw [tensE_no c] at hE; omega
  have HF := Lib.hid (outS_fits (s := s) hform)
  obtain ⟨wA, hwA, J1, z1, n1⟩ := grid_box w (.slice W.sa W.sl W.sc) (.slice W.ca W.cl W.cc)
  obtain ⟨wB, hwB, J2, z2, n2⟩ := grid_box wA (.slice x.sa x.sl x.sc) (.slice x.ca x.cl x.cc)
  obtain ⟨wC, hwC, J3, z3, n3⟩ := grid_box wB (.slice G.sa G.sl G.sc) (.slice G.ca G.cl G.cc)
  obtain ⟨wD, hwD, J4, z4, n4⟩ := gd_box wC (.slice none 0 0) (.slice none 0 0) (.slice none 0 0) (.slice none 0 0)
  rw [n1.out] at J2
  rw [n2.out, n1.out] at J3
  rw [n3.out, n2.out, n1.out] at J4
  have z12 := z1.out.trans (z2.out.mono z1.out.size)
  have z13 := z12.trans (z3.out.mono z12.size)
  have z := Lib.hid (z13.trans (z4.out.mono z13.size))
  have J1' := Lib.hid (((J1.out.kept z2.out).kept z3.out).kept z4.out)
  have J2' := Lib.hid ((J2.out.kept z3.out).kept z4.out)
  have J3' := Lib.hid (J3.out.kept z4.out)
  have nC : Hid (wD.heap.size = w.heap.size + 4) := Lib.hid (by rw [n4.out, n3.out, n2.out, n1.out])
  clear z12 z13 J1 J2 J3 z1 z2 z3 n1 n2 n3
  have O := outshape_any W x s wD (h.kept z.out) (h'.kept z.out) c1 c2 hs1 hs2
  obtain ⟨j0, j1, -, -⟩ := J1'.out.see
  obtain ⟨i0, i1, -, -⟩ := J2'.out.see
  obtain ⟨l0, l1, -, -⟩ := J3'.out.see
  have O1 := Lib.hid (O.mono (fun e w' hh => hh.1 hE))
  have TR := fun w1 (hb : Below wD.heap.size wD w1) => tright_any G.sa G.sl G.sc G.ss G.ca G.cl G.cc w1 ((hg.1.kept z.out).kept hb) (by have := hg.2.2.2; omega)
  have EQ := fun A n c w1 (hb : Below wD.heap.size wD w1) (hi : IntsAt w1 A n (outS W.ss x.ss s)) => equal_any G.sa G.sl G.sc G.ss A n c (outS W.ss x.ss s) w1 ((hg.1.kept z.out).kept hb) hi
  obtain ⟨os, hos⟩ : ∃ l, outS W.ss x.ss s = l := ⟨_, rfl⟩
  obtain ⟨n, hn⟩ : ∃ l, x.ss.length = l := ⟨_, rfl⟩
  rw [hos] at O1 HF hG
  rw [hn] at O1 hx1 hx4
  simp only [hos] at EQ
  clear O h h' hg c1 c2 hE hform hos hn
  unfold gOk at hG
  cases b1 : rightT G.ss G.cl
  · simp only [b1] at TR
    have TR1 := Lib.hid TR
    clear TR EQ hG b1
    go_enter Try.func20, Try.ntmps20
    go_upto_region 1 with (fail)
    rw [hwA.out, hwB.out, hwC.out, hwD.out]
    go_wp2_with fail
    refine O1.out.mono ?_
    rintro e w1 ⟨A, c, rfl, ho, hb1⟩
    obtain ⟨k0, k1, -, -⟩ := (J3'.out.kept hb1).see
    go_wp2_with fail
    refine (TR1.out w1 hb1).mono ?_
    rintro e w2 ⟨rfl, hb2⟩
    have hb := hb1.trans (hb2.mono hb1.size)
    have J4' := J4.out.kept hb
    obtain ⟨e0, e1, e2, e3⟩ := J4'.see
    obtain ⟨f0, f1, f2, f3⟩ := J4'.live
    obtain ⟨h0, h1, h2, h3⟩ := (J4'.set (.slice none 0 0) (.slice none 0 0) (.slice none 0 0) (.slice none 0 0)).see
    have P := Lib.hid (gdset_below (a := .slice none 0 0) (b := .slice none 0 0) (c := .slice none 0 0) (d := .slice none 0 0) (z.out.trans (Below.mono hb z.out.size)) (show w.heap.size ≤ w.heap.size + 1 + 1 + 1 by omega))
    simp only [gdset] at h0 h1 h2 h3 P
    clear hb hb1 hb2 ho J4'
    go_wp2_with fail
    refine bodyPost_ret (v := .tuple #[.agg #[.slice none 0 0, .slice none 0 0, .slice none 0 0, .slice none 0 0], .int .i64 20]) ?_ rfl ⟨rfl, P.out⟩
    simp [results, Try.results20, go_sem, h0, h1, h2, h3]
  · simp only [b1] at TR
    rw [b1, Bool.true_and] at hG
    simp only [hG] at EQ
    have TR1 := Lib.hid TR
    have EQ1 := Lib.hid EQ
    clear TR EQ hG b1
    go_enter Try.func20, Try.ntmps20
    go_upto_region 1 with (fail)
    rw [hwA.out, hwB.out, hwC.out, hwD.out]
    go_wp2_with fail
    refine O1.out.mono ?_
    rintro e w1 ⟨A, c, rfl, ho, hb1⟩
    obtain ⟨k0, k1, -, -⟩ := (J3'.out.kept hb1).see
    have IO := Lib.hid (fun w' (hb : Below w1.heap.size w1 w') => (row_ints ho (by omega) HF.out).kept hb)
    go_wp2_with fail
    refine (TR1.out w1 hb1).mono ?_
    rintro e w2 ⟨rfl, hb2⟩
    have hb := hb1.trans (hb2.mono hb1.size)
    obtain ⟨k0, k1, -, -⟩ := (J3'.out.kept hb).see
    have E2 := Lib.hid (EQ1.out A n c w2 hb (IO.out w2 hb2))
    have HB := Lib.hid hb
    clear hb hb1 hb2 ho
    go_wp2_with fail
    refine E2.out.mono ?_
    rintro e w3 ⟨rfl, nq, hnq⟩
    have hb3 : Below wD.heap.size wD w3 := by rw [hnq]; exact below_drewN' HB.out nq
    clear hnq
    have J4' := J4.out.kept hb3
    obtain ⟨e0, e1, e2, e3⟩ := J4'.see
    obtain ⟨f0, f1, f2, f3⟩ := J4'.live
    obtain ⟨h0, h1, h2, h3⟩ := (J4'.set (.slice none 0 0) (.slice none 0 0) (.slice none 0 0) (.slice none 0 0)).see
    have P := Lib.hid (gdset_below (a := .slice none 0 0) (b := .slice none 0 0) (c := .slice none 0 0) (d := .slice none 0 0) (z.out.trans (Below.mono hb3 z.out.size)) (show w.heap.size ≤ w.heap.size + 1 + 1 + 1 by omega))
    simp only [gdset] at h0 h1 h2 h3 P
    clear hb3 J4'
    go_wp2_with fail
    refine bodyPost_ret (v := .tuple #[.agg #[.slice none 0 0, .slice none 0 0, .slice none 0 0, .slice none 0 0], .int .i64 20]) ?_ rfl ⟨rfl, P.out⟩
    simp [results, Try.results20, go_sem, h0, h1, h2, h3]
end Go.Proofs.Ytapelgjnnccfoaa

