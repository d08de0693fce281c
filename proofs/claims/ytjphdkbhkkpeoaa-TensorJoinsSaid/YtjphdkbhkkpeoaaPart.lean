/-
  The argument of the statements on two tensors: a struct of two tensors and three numbers, as a value and in a block.
-/
import Derived.Test.YtjphdkbhkkpeoaaTenI
import Derived.Test.YtjphdkbhkkpeoaaOpen
namespace Go.Proofs.Ytjphdkbhkkpeoaa
open Go.RowKit Go.ChangeShapes Go.WideShapes Go.Deep
set_option linter.unusedVariables false
set_option linter.unusedSimpArgs false

/-- A block holds two tensors and three numbers. -/
def PAt (w : World) (B : Nat) (s c s2 c2 a b d : Value) : Prop := w.heap[B]? = some (.cells #[s, c, s2, c2, a, b, d] 47 (0, 0))
section
variable {w w' : World} {B : Nat} {s c s2 c2 a b d : Value}
theorem PAt.lt (h : PAt w B s c s2 c2 a b d) : B < w.heap.size := (Array.getElem?_eq_some_iff.1 h).1
theorem PAt.kept (h : PAt w B s c s2 c2 a b d) (hb : Below w.heap.size w w') : PAt w' B s c s2 c2 a b d := (hb.block B h.lt).trans h
theorem PAt.see (h : PAt w B s c s2 c2 a b d) : w.cell? ⟨B, 0, none⟩ = some s ∧ w.cell? ⟨B, 1, none⟩ = some c ∧ w.cell? ⟨B, 2, none⟩ = some s2 ∧ w.cell? ⟨B, 3, none⟩ = some c2 ∧ w.cell? ⟨B, 4, none⟩ = some a ∧ w.cell? ⟨B, 5, none⟩ = some b ∧ w.cell? ⟨B, 6, none⟩ = some d := by
  refine ⟨?_, ?_, ?_, ?_, ?_, ?_, ?_⟩ <;> (rw [Joins.cell_of_block h]; rfl)
end
theorem part_box (w : World) (s c s2 c2 a b d : Value) : ∃ wB, Hid (w.alloc (.cells #[s, c, s2, c2, a, b, d] 47) = wB) ∧ Hid (PAt wB w.heap.size s c s2 c2 a b d) ∧ Hid (Below w.heap.size w wB) ∧ Hid (wB.heap.size = w.heap.size + 1) :=
  ⟨_, Lib.hid rfl, Lib.hid (World.alloc_heap_new w _), Lib.hid ((Below.refl _ _).alloc (Nat.le_refl _) _), Lib.hid (by simp)⟩

section
variable {H : Type} {enc : TypeId × Value → H} {P : Program} {w : World} {base : Nat} {spare : Nat → Bool} {held : Bool}

theorem agg_nested {r : Reach} {b0 : Nat} {t : TypeId} {fs : Array Field} {v : Value} {d : DataW H} {p : List MemPlace} (hs : P.underlying t = some (.struct fs))
    (hv : Value.okWide P w r b0 t v) (h : DataW.Trod enc P w base spare held t v d p) :
    ∃ (cs : List Value) (n : Nat), v = .agg cs.toArray ∧ cs.length = P.cellsOf t ∧ ∀ (j : Nat) (f : Field), fs[j]? = some f → ∃ y, DataW.trod enc P w base spare held n f.type ((cs.drop f.offset).take (P.cellsOf f.type)) = some y := by
  obtain ⟨⟨l⟩, rfl, hsz⟩ := okWide_struct hs hv
  obtain ⟨fuel, hf⟩ := h
  obtain ⟨xs, n, -, -, -, hxl, hat⟩ := DataW.trod_struct hs hf
  refine ⟨l, n, rfl, hsz, fun j f hj => ?_⟩
  have hlt : j < fs.size := (Array.getElem?_eq_some_iff.1 hj).1
  have h1 := hat j f hj
  rw [List.getElem?_eq_getElem (by omega : j < xs.length)] at h1
  exact ⟨_, h1⟩
theorem struct_field {t : TypeId} {fs : Array Field} {fuel : Nat} {cs : List Value} {x : DataW H × List MemPlace} (hs : P.underlying t = some (.struct fs)) (h : DataW.trod enc P w base spare held fuel t cs = some x) :
    ∃ n, ∀ (j : Nat) (f : Field), fs[j]? = some f → ∃ y, DataW.trod enc P w base spare held n f.type ((cs.drop f.offset).take (P.cellsOf f.type)) = some y := by
  obtain ⟨xs, n, -, -, -, hxl, hat⟩ := DataW.trod_struct hs h
  refine ⟨n, fun j f hj => ?_⟩
  have hlt : j < fs.size := (Array.getElem?_eq_some_iff.1 hj).1
  have h1 := hat j f hj
  rw [List.getElem?_eq_getElem (by omega : j < xs.length)] at h1
  exact ⟨_, h1⟩
end

theorem cellsS : Try.prog.cellsOf 23 = 1 := by kernel_rfl
theorem cellsF : Try.prog.cellsOf 24 = 1 := by kernel_rfl
theorem cellsG : Try.prog.cellsOf 26 = 2 := by kernel_rfl
theorem cellsI : Try.prog.cellsOf 3 = 1 := by kernel_rfl
theorem cellsP : Try.prog.cellsOf 47 = 7 := by kernel_rfl

theorem grid_cells {H : Type} {enc : TypeId × Value → H} {w : World} {base : Nat} {spare : Nat → Bool} {held : Bool} {fuel : Nat} {c0 c1 : Value} {x : DataW H × List MemPlace}
    (h : DataW.trod enc Try.prog w base spare held fuel 26 [c0, c1] = some x) :
    ∃ sa sl sc ss ca cl cc cs, c0 = .slice sa sl sc ∧ c1 = .slice ca cl cc ∧ IntsAt w sa sl ss ∧ IntsAt w ca cl cs := by
  obtain ⟨n, hf⟩ := struct_field Try.underlying26 h
  obtain ⟨y0, h0⟩ := hf 0 _ rfl
  obtain ⟨y1, h1⟩ := hf 1 _ rfl
  have g0 : DataW.trod enc Try.prog w base spare held n 23 (([c0, c1].drop 0).take (Try.prog.cellsOf 23)) = some y0 := h0
  have g1 : DataW.trod enc Try.prog w base spare held n 24 (([c0, c1].drop 1).take (Try.prog.cellsOf 24)) = some y1 := h1
  rw [cellsS] at g0
  rw [cellsF] at g1
  replace g0 : DataW.trod enc Try.prog w base spare held n 23 [c0] = some y0 := g0
  replace g1 : DataW.trod enc Try.prog w base spare held n 24 [c1] = some y1 := g1
  obtain ⟨sa, sl, sc, ss, rfl, w0⟩ := field_ints Try.underlying23 Try.underlying3 (by kernel_rfl) g0
  obtain ⟨ca, cl, cc, cs, rfl, w1⟩ := field_ints Try.underlying24 Try.underlying27 (by kernel_rfl) g1
  exact ⟨sa, sl, sc, ss, ca, cl, cc, cs, rfl, rfl, w0, w1⟩

set_option maxRecDepth 100000 in
theorem part_open {H : Type} {enc : TypeId × Value → H} {w : World} {base : Nat} {spare : Nat → Bool} {held : Bool} {r : Reach} {b0 : Nat} {v : Value} {d : DataW H} {p : List MemPlace}
    (hv : Value.okWide Try.prog w r b0 47 v) (h : DataW.Trod enc Try.prog w base spare held 47 v d p) :
    ∃ sa sl sc ss ca cl cc cs sa2 sl2 sc2 ss2 ca2 cl2 cc2 ds side fr upto, v = .agg #[.slice sa sl sc, .slice ca cl cc, .slice sa2 sl2 sc2, .slice ca2 cl2 cc2, .int .i64 side, .int .i64 fr, .int .i64 upto] ∧
      IntsAt w sa sl ss ∧ IntsAt w ca cl cs ∧ IntsAt w sa2 sl2 ss2 ∧ IntsAt w ca2 cl2 ds ∧
      (-9223372036854775808 ≤ side ∧ side ≤ 9223372036854775807) ∧ (-9223372036854775808 ≤ fr ∧ fr ≤ 9223372036854775807) ∧ (-9223372036854775808 ≤ upto ∧ upto ≤ 9223372036854775807) := by
  obtain ⟨cs, n, rfl, hl, hf⟩ := agg_nested Try.underlying47 hv h
  rw [cellsP] at hl
  match cs, hl with
  | [c0, c1, c2, c3, c4, c5, c6], _ =>
    obtain ⟨y0, h0⟩ := hf 0 _ rfl
    have g0 : DataW.trod enc Try.prog w base spare held n 26 (([c0, c1, c2, c3, c4, c5, c6].drop 0).take (Try.prog.cellsOf 26)) = some y0 := h0
    rw [cellsG] at g0
    replace g0 : DataW.trod enc Try.prog w base spare held n 26 [c0, c1] = some y0 := g0
    obtain ⟨y1, h1⟩ := hf 1 _ rfl
    have g1 : DataW.trod enc Try.prog w base spare held n 26 (([c0, c1, c2, c3, c4, c5, c6].drop 2).take (Try.prog.cellsOf 26)) = some y1 := h1
    rw [cellsG] at g1
    replace g1 : DataW.trod enc Try.prog w base spare held n 26 [c2, c3] = some y1 := g1
    obtain ⟨y2, h2⟩ := hf 2 _ rfl
    have g2 : DataW.trod enc Try.prog w base spare held n 3 (([c0, c1, c2, c3, c4, c5, c6].drop 4).take (Try.prog.cellsOf 3)) = some y2 := h2
    rw [cellsI] at g2
    replace g2 : DataW.trod enc Try.prog w base spare held n 3 [c4] = some y2 := g2
    obtain ⟨y3, h3⟩ := hf 3 _ rfl
    have g3 : DataW.trod enc Try.prog w base spare held n 3 (([c0, c1, c2, c3, c4, c5, c6].drop 5).take (Try.prog.cellsOf 3)) = some y3 := h3
    rw [cellsI] at g3
    replace g3 : DataW.trod enc Try.prog w base spare held n 3 [c5] = some y3 := g3
    obtain ⟨y4, h4⟩ := hf 4 _ rfl
    have g4 : DataW.trod enc Try.prog w base spare held n 3 (([c0, c1, c2, c3, c4, c5, c6].drop 6).take (Try.prog.cellsOf 3)) = some y4 := h4
    rw [cellsI] at g4
    replace g4 : DataW.trod enc Try.prog w base spare held n 3 [c6] = some y4 := g4
    obtain ⟨sa, sl, sc, ss, ca, cl, cc, cs, rfl, rfl, i0, i1⟩ := grid_cells g0
    obtain ⟨sa2, sl2, sc2, ss2, ca2, cl2, cc2, cs2, rfl, rfl, i2, i3⟩ := grid_cells g1
    obtain ⟨k1, rfl, a1, b1⟩ := field_int Try.underlying3 g2
    obtain ⟨k2, rfl, a2, b2⟩ := field_int Try.underlying3 g3
    obtain ⟨k3, rfl, a3, b3⟩ := field_int Try.underlying3 g4
    exact ⟨sa, sl, sc, ss, ca, cl, cc, cs, sa2, sl2, sc2, ss2, ca2, cl2, cc2, cs2, k1, k2, k3, rfl, i0, i1, i2, i3, ⟨a1, b1⟩, ⟨a2, b2⟩, ⟨a3, b3⟩⟩

theorem scale_any (sa : Option Addr) (sl sc : Nat) (ss : List Int) (ca : Option Addr) (cl cc : Nat) (cs : List Int) (y : Int) (w : World) (h : IntsAt w sa sl ss) (hs : sl ≤ 1000) (hc : IntsAt w ca cl cs) (hl : cl ≤ 1000)
    (hy1 : -9223372036854775808 ≤ y) (hy2 : y ≤ 9223372036854775807) :
    Calls Try.prog 31 #[.agg #[.slice sa sl sc, .slice ca cl cc], .int .i64 y] w (ResT w (okL (rightT ss cl) ss) (okL (rightT ss cl) (scaleL cs y)) (okE (rightT ss cl))) := by
  cases b : rightT ss cl
  · exact (scale_no sa sl sc ss ca cl cc y w h (by omega) b).mono fun e w' h' => ResT.of_nil h'
  · exact (scale_ok sa sl sc ss ca cl cc cs y w h hs hc hl b (rightT_pos b) hy1 hy2).mono fun e w' h' => ResT.of_ok h' h.2.1 hc.2.1 h.2.2.1 (scaleL_fits _ _)
theorem tadd_any (sa : Option Addr) (sl sc : Nat) (ss : List Int) (ca : Option Addr) (cl cc : Nat) (cs : List Int) (sa2 : Option Addr) (sl2 sc2 : Nat) (ss2 : List Int) (ca2 : Option Addr) (cl2 cc2 : Nat) (ds : List Int) (w : World)
    (h : IntsAt w sa sl ss) (hs : sl ≤ 1000) (hc : IntsAt w ca cl cs) (hl : cl ≤ 1000) (h2 : IntsAt w sa2 sl2 ss2) (hd : IntsAt w ca2 cl2 ds) (hl2 : cl2 ≤ 1000) :
    Calls Try.prog 30 #[.agg #[.slice sa sl sc, .slice ca cl cc], .agg #[.slice sa2 sl2 sc2, .slice ca2 cl2 cc2]] w (ResT w (okL (alikeT ss cl ss2 cl2) ss) (okL (alikeT ss cl ss2 cl2) (addL cs ds)) (okE (alikeT ss cl ss2 cl2))) := by
  cases b : alikeT ss cl ss2 cl2
  · exact (tadd_no sa sl sc ss ca cl cc sa2 sl2 sc2 ss2 ca2 cl2 cc2 w h (by omega) h2 (by omega) b).mono fun e w' h' => ResT.of_nil h'
  · obtain ⟨p1, p2, rfl, rfl⟩ := alikeT_parts b
    exact (tadd_ok sa sl sc ss ca cl cc cs sa2 sl2 sc2 ss ca2 cc2 ds w h hs hc hl h2 hd b (rightT_pos p1)).mono fun e w' h' => ResT.of_ok h' h.2.1 hc.2.1 h.2.2.1 (addL_fits _ _)
end Go.Proofs.Ytjphdkbhkkpeoaa
