import Derived.Test.YtapelgjnnccfoaaJ00
import Derived.StillTailTactics
import Derived.IntWalk
import Derived.Deep.RegionHeld3
import Derived.Lib.SmallJoins
import Derived.ChangeSlices
import Derived.OpenShut
import Derived.SizedLaws
import Derived.Deep.DeepCutAuto
import Derived.Deep.CutBlock
import Derived.Tactics
import Derived.Tactics2
import Derived.Defers
import Derived.Recover
import Derived.Laws.Pointers
import Derived.Laws.OwnMore
import Derived.LoopTactic
import Derived.Laws.AppendOwnNone
import Derived.Deep.AppendLies
/-
  Blocks that stay whole through an iterator's steps.
-/
namespace Go.Proofs.Ytapelgjnnccfoaa
open Go.RowKit
set_option linter.unusedVariables false
set_option linter.unusedSimpArgs false

/-- Block k is not the iterator's and holds these cells. -/
def Has (O : BSet) (W : World) (k : Nat) (cur : Array Value) (t : TypeId) : Prop := ¬ O k ∧ W.heap[k]? = some (.cells cur t (0, 0))
theorem Has.lt {O : BSet} {W : World} {k : Nat} {cur : Array Value} {t : TypeId} (h : Has O W k cur t) : k < W.heap.size := (Array.getElem?_eq_some_iff.1 h.2).1
theorem Has.stable {O O' : BSet} {W W' : World} {k : Nat} {cur : Array Value} {t : TypeId} (h : Has O W k cur t) (hs : ItStep O W O' W') : Has O' W' k cur t :=
  ⟨not_own hs h.lt h.1, (hs.block k h.lt h.1).trans h.2⟩
theorem Has.cell {O : BSet} {W : World} {k : Nat} {cur : Array Value} {t : TypeId} (h : Has O W k cur t) (j : Nat) : W.cell? ⟨k, j, none⟩ = cur[j]? := by
  rw [cell_of_row W k j cur t (0, 0) h.2]
theorem Has.frozen {O : BSet} {W : World} {k : Nat} {cur : Array Value} {t : TypeId} (h : Has O W k cur t) (j : Nat) : W.frozen? ⟨k, j, none⟩ = false := frozen_of_row W k j cur t h.2
theorem Has.set {O : BSet} {W : World} {k : Nat} {cur : Array Value} {t : TypeId} (h : Has O W k cur t) (j : Nat) (v : Value) : Has O (W.setCell ⟨k, j, none⟩ v) k (cur.setIfInBounds j v) t :=
  ⟨h.1, heap_setCell_same W k j cur t v h.2⟩
theorem Has.other {O : BSet} {W : World} {k : Nat} {cur : Array Value} {t : TypeId} (h : Has O W k cur t) {p : Addr} (v : Value) (hp : k ≠ p.block) : Has O (W.setCell p v) k cur t :=
  ⟨h.1, (Below.heap_setCell W p v k hp).trans h.2⟩
theorem Has.below {O : BSet} {W W' : World} {k : Nat} {cur : Array Value} {t : TypeId} (h : Has O W k cur t) (hb : Below W.heap.size W W') : Has O W' k cur t := h.stable (ItStep.of_below hb)
theorem Has.drew {O : BSet} {W : World} {k : Nat} {cur : Array Value} {t : TypeId} (h : Has O W k cur t) : Has O W.drew k cur t := h
theorem Has.made {O : BSet} (W : World) (cur : Array Value) (t : TypeId) (h : ¬ O W.heap.size) : Has O (W.alloc (.cells cur t)) W.heap.size cur t := ⟨h, World.alloc_heap_new W _⟩

/-- All that was there at the start is as it was; the iterator's blocks are new. -/
def Base (w : World) (O : BSet) (W : World) : Prop := Below w.heap.size w W ∧ ∀ k, O k → w.heap.size ≤ k
theorem Base.stable {w : World} {O O' : BSet} {W W' : World} (h : Base w O W) (hs : ItStep O W O' W') : Base w O' W' := by
  refine ⟨⟨hs.os.trans h.1.os, hs.tape.trans h.1.tape, hs.output.trans h.1.output, Nat.le_trans h.1.size hs.size, fun k hk => ?_⟩, fun k hk => ?_⟩
  · exact (hs.block k (Nat.lt_of_lt_of_le hk h.1.size) (fun ho => by have := h.2 k ho; omega)).trans (h.1.block k hk)
  · rcases hs.new k hk with h1 | h1
    · exact h.2 k h1
    · exact Nat.le_trans h.1.size h1
theorem Base.trans {w : World} {O : BSet} {W W' : World} (h : Base w O W) (hb : Below w.heap.size W W') : Base w O W' := ⟨h.1.trans hb, h.2⟩
theorem RdStep.drew (M : BSet) (W : World) : RdStep M W W.drew := RdStep.of_below (Below.refl _ _).drew
theorem below_putObj {B : Nat} {w W : World} (h : Below B w W) (D : Nat) (o : Obj) (hD : B ≤ D) : Below B w (W.putObj D o) :=
  ⟨h.os, h.tape, h.output, Nat.le_trans h.size (by simp), fun k hk => (World.putObj_heap_other (by omega)).trans (h.block k hk)⟩
theorem Has.putObj {O : BSet} {W : World} {k : Nat} {cur : Array Value} {t : TypeId} (h : Has O W k cur t) (D : Nat) (o : Obj) (hD : O D) : Has O (W.putObj D o) k cur t := h.stable (ItStep.putObj W D o hD)
/-- A whole block is a row of its own. -/
theorem Has.row {O : BSet} {W : World} {k : Nat} {zs : List Int} {t : TypeId} (h : Has O W k (zs.map (Value.int .i64)).toArray t) {B n : Nat} (hB : B ≤ k) (hn : zs.length = n) (hm : n ≤ maxLen) :
    W.ownsRow B t 1 (.slice (some ⟨k, 0, none⟩) n n) n (zs.map (Value.int .i64)) :=
  ⟨by simp [hn], .inr ⟨k, n, _, rfl, hB, h.2, Nat.le_refl _, hm, by simp [hn], by rw [List.take_of_length_le (by simp [hn])]⟩⟩
end Go.Proofs.Ytapelgjnnccfoaa

/-
  Contracts of package tensor: Right, alike.
-/
namespace Go.Proofs.Ytapelgjnnccfoaa
open Go.RowKit
set_option linter.unusedVariables false
set_option linter.unusedSimpArgs false

/-- A block holds a tensor. -/
def GAt (w : World) (B : Nat) (s c : Value) : Prop := w.heap[B]? = some (.cells #[s, c] 34 (0, 0))
theorem GAt.lt {w : World} {B : Nat} {s c : Value} (h : GAt w B s c) : B < w.heap.size := (Array.getElem?_eq_some_iff.1 h).1
theorem GAt.kept {w w' : World} {B : Nat} {s c : Value} (h : GAt w B s c) (hb : Below w.heap.size w w') : GAt w' B s c := (hb.block B h.lt).trans h
theorem GAt.below {w w' : World} {B n : Nat} {s c : Value} (h : GAt w B s c) (hb : Below n w w') (hn : B < n) : GAt w' B s c := (hb.block B hn).trans h
theorem GAt.see {w : World} {B : Nat} {s c : Value} (h : GAt w B s c) : w.cell? ⟨B, 0, none⟩ = some s ∧ w.cell? ⟨B, 1, none⟩ = some c ∧ w.frozen? ⟨B, 0, none⟩ = false ∧ w.frozen? ⟨B, 1, none⟩ = false :=
  ⟨by rw [Joins.cell_of_block h]; rfl, by rw [Joins.cell_of_block h]; rfl, Joins.unfrozen_of_block h 0, Joins.unfrozen_of_block h 1⟩
theorem GAt.set {w : World} {B : Nat} {s c : Value} (h : GAt w B s c) (s' c' : Value) : GAt ((w.setCell ⟨B, 0, none⟩ s').setCell ⟨B, 1, none⟩ c') B s' c' := by
  have h1 := Joins.block_setCell (Joins.block_setCell (i := 0) h s') (i := 1) c'
  exact h1
theorem GAt.other {w : World} {B : Nat} {s c : Value} (h : GAt w B s c) {p : Addr} (v : Value) (hp : B ≠ p.block) : GAt (w.setCell p v) B s c := (Below.heap_setCell w p v B hp).trans h
theorem GAt.drew {w : World} {B : Nat} {s c : Value} (h : GAt w B s c) : GAt w.drew B s c := h
theorem grid_box (w : World) (s c : Value) : ∃ wB, Hid (w.alloc (.cells #[s, c] 34) = wB) ∧ Hid (GAt wB w.heap.size s c) ∧ Hid (Below w.heap.size w wB) ∧ Hid (wB.heap.size = w.heap.size + 1) :=
  ⟨_, Lib.hid rfl, Lib.hid (World.alloc_heap_new w _), Lib.hid ((Below.refl _ _).alloc (Nat.le_refl _) _), Lib.hid (by simp)⟩

/-- A tensor with this shape and this number of cells is valid. -/
def rightT (ss : List Int) (n : Nat) : Bool := rightS ss && decide ((n : Int) = prodI ss)
theorem rightT_no {ss : List Int} {n : Nat} (h : rightS ss = false) : false = rightT ss n := by simp [rightT, h]
theorem rightT_len {ss : List Int} {n : Nat} (h : ¬ (n : Int) = prodI ss) : false = rightT ss n := by simp [rightT, h]
theorem rightT_yes {ss : List Int} {n : Nat} (h : rightS ss = true) (h' : (n : Int) = prodI ss) : true = rightT ss n := by simp [rightT, h, h']
theorem rightT_parts {ss : List Int} {n : Nat} (h : rightT ss n = true) : rightS ss = true ∧ (n : Int) = prodI ss := by simpa [rightT] using h

set_option maxHeartbeats 1000000 in
theorem tright_any (sa : Option Addr) (sl sc : Nat) (ss : List Int) (ca : Option Addr) (cl cc : Nat) (w : World) (h : IntsAt w sa sl ss) (hl : cl ≤ 9223372036854775807) :
    Calls Try.prog 39 #[.agg #[.slice sa sl sc, .slice ca cl cc]] w fun e w' => e = .returned (.bool (rightT ss cl)) ∧ Below w.heap.size w w' := by
  obtain ⟨wB, hwB, J, z0, -⟩ := grid_box w (.slice sa sl sc) (.slice ca cl cc)
  have C := size_any sa sl sc ss wB (h.kept z0.out)
  clear h
  cases b : rightS ss
  · rw [sizeE_no b, sizeN_no b] at C
    have C1 := Lib.hid C
    have E := Lib.hid (rightT_no (n := cl) b)
    clear C b
    go_enter Try.func39, Try.ntmps39
    go_wp2_with fail
    rw [hwB.out]
    refine C1.out.mono ?_
    rintro e w1 ⟨rfl, hb1⟩
    go_wp2_with fail
    go_ret
    exact ⟨ret_bool E.out, z0.out.trans (hb1.mono z0.out.size)⟩
  · rw [sizeE_yes b, sizeN_yes b] at C
    have E1 := Lib.hid (fun h => rightT_yes (n := cl) b h)
    have E2 := Lib.hid (fun h => rightT_len (ss := ss) (n := cl) h)
    clear b
    obtain ⟨x, hx⟩ : ∃ x, prodI ss = x := ⟨_, rfl⟩
    rw [hx] at C E1 E2
    clear hx
    have C1 := Lib.hid C
    clear C
    by_cases c : (cl : Int) = x
    · have E := Lib.hid (E1.out c)
      clear E1 E2
      go_enter Try.func39, Try.ntmps39
      go_wp2_with fail
      rw [hwB.out]
      refine C1.out.mono ?_
      rintro e w1 ⟨rfl, hb1⟩
      obtain ⟨j0, j1, -, -⟩ := (J.out.kept hb1).see
      go_wp2_with fail
      go_ret
      exact ⟨ret_bool E.out, z0.out.trans (hb1.mono z0.out.size)⟩
    · have E : Hid (((cl : Int) == x) = rightT ss cl) := Lib.hid ((beq_eq_false_iff_ne.2 c).trans (E2.out c))
      clear E1 E2
      go_enter Try.func39, Try.ntmps39
      go_wp2_with fail
      rw [hwB.out]
      refine C1.out.mono ?_
      rintro e w1 ⟨rfl, hb1⟩
      obtain ⟨j0, j1, -, -⟩ := (J.out.kept hb1).see
      go_wp2_with fail
      go_ret
      exact ⟨ret_bool E.out, z0.out.trans (hb1.mono z0.out.size)⟩

/-- Both tensors are valid and have the same shape. -/
def alikeT (s1 : List Int) (n1 : Nat) (s2 : List Int) (n2 : Nat) : Bool := rightT s1 n1 && rightT s2 n2 && sameL s1 s2

theorem row_far {w : World} {B : Nat} {e : TypeId} {k : Nat} {v : Value} {n : Nat} {xs : List Value} {p : Addr} {u : Value} (h : w.ownsRow B e k v n xs) (hp : p.block < B) : (w.setCell p u).ownsRow B e k v n xs := by
  rcases h.2 with h2 | ⟨g, cap, cur, hv, hbg, hg, rest⟩
  · exact ⟨h.1, .inl h2⟩
  · exact ⟨h.1, .inr ⟨g, cap, cur, hv, hbg, (Below.heap_setCell w p u g (by omega)).trans hg, rest⟩⟩

/-- A new tensor; all that was there before is as it was. -/
def NewT (w : World) (sl : Nat) (ss : List Int) (cl : Nat) (cs : List Int) (v : Value) (w' : World) : Prop :=
  ∃ A c A' c', v = .agg #[.slice A sl c, .slice A' cl c'] ∧ w'.ownsRow w.heap.size 3 1 (.slice A sl c) sl (ss.map (Value.int .i64)) ∧ w'.ownsRow w.heap.size 56 1 (.slice A' cl c') cl (cs.map (Value.int .i64)) ∧
    (∀ p q, A = some p → A' = some q → p.block ≠ q.block) ∧ Below w.heap.size w w'

end Go.Proofs.Ytapelgjnnccfoaa
/-
  Opening arguments: a struct of fields of one cell each, by value, whatever their number; a slice of integers and an integer among its fields.
-/
namespace Go.Proofs.Ytapelgjnnccfoaa
open Go.RowKit Go.ChangeShapes Go.WideShapes Go.Deep
set_option linter.unusedVariables false
set_option linter.unusedSimpArgs false
section
variable {H : Type} {enc : TypeId × Value → H} {P : Program} {w : World} {base : Nat} {spare : Nat → Bool} {held : Bool}

theorem agg_open {r : Reach} {b0 : Nat} {t : TypeId} {fs : Array Field} {v : Value} {d : DataW H} {p : List MemPlace} (hs : P.underlying t = some (.struct fs)) (hone : oneCellFields P fs = true) (hC : P.cellsOf t = fs.size)
    (hv : Value.okWide P w r b0 t v) (h : DataW.Trod enc P w base spare held t v d p) :
    ∃ (cs : List Value) (n : Nat), v = .agg cs.toArray ∧ cs.length = fs.size ∧ ∀ (j : Nat) (f : Field), fs[j]? = some f → ∃ c y, cs[j]? = some c ∧ DataW.trod enc P w base spare held n f.type [c] = some y := by
  obtain ⟨⟨l⟩, rfl, hsz⟩ := okWide_struct hs hv
  obtain ⟨fuel, hf⟩ := h
  obtain ⟨xs, n, -, -, -, hxl, hat⟩ := DataW.trod_struct hs hf
  have hl : l.length = fs.size := hsz.trans hC
  refine ⟨l, n, rfl, hl, fun j f hj => ?_⟩
  have hlt : j < fs.size := (Array.getElem?_eq_some_iff.1 hj).1
  obtain ⟨ho, hk⟩ := hone_of hone j f hj
  have h1 := hat j f hj
  have e : ((Value.agg l.toArray).cells.toList.drop f.offset).take (P.cellsOf f.type) = [l[j]'(by omega)] := by
    rw [ho, hk]
    show (l.drop j).take 1 = _
    rw [List.drop_eq_getElem_cons (by omega)]
    rfl
  rw [e, List.getElem?_eq_getElem (by omega : j < xs.length)] at h1
  exact ⟨_, _, List.getElem?_eq_getElem (by omega), h1⟩

theorem field_ints {t e : TypeId} {fuel : Nat} {c : Value} {x : DataW H × List MemPlace} (ht : P.underlying t = some (.slice e)) (he : P.underlying e = some (.int .i64)) (hc : P.cellsOf e = 1)
    (h : DataW.trod enc P w base spare held fuel t [c] = some x) : ∃ a len cap zs, c = .slice a len cap ∧ IntsAt w a len zs := by
  rcases open_ints ht he hc h with ⟨hcs, -⟩ | ⟨a, len, cap, zs, hcs, -, hl, hm, hz, -, hcell, hwz⟩
  · obtain rfl := (List.cons.inj hcs).1
    exact ⟨_, _, _, _, rfl, IntsAt.nil _ _⟩
  · obtain rfl := (List.cons.inj hcs).1
    refine ⟨_, _, cap, zs.take len, rfl, ?_⟩
    by_cases hs : zs.length = cap
    · exact IntsAt.of_row hl hm hs hcell hwz
    · have hz' : zs.length = len := by
        split at hz
        · exact absurd hz hs
        · exact hz
      exact IntsAt.of_row (cap := len) (Nat.le_refl _) (by omega) hz' hcell hwz

theorem field_int {t : TypeId} {fuel : Nat} {c : Value} {x : DataW H × List MemPlace} (ht : P.underlying t = some (.int .i64))
    (h : DataW.trod enc P w base spare held fuel t [c] = some x) : ∃ n, c = .int .i64 n ∧ -9223372036854775808 ≤ n ∧ n ≤ 9223372036854775807 := by
  obtain ⟨n, hcs, -, hw⟩ := DataW.trod_int ht h
  obtain rfl := (List.cons.inj hcs).1
  exact ⟨n, rfl, bounds_i64 hw⟩
end
theorem list2 {α : Type} {l : List α} {a0 a1 : α} (h : l.length = 2) (h0 : l[0]? = some a0) (h1 : l[1]? = some a1) : l = [a0, a1] := by
  match l, h with
  | [_, _], _ => simp_all
theorem list3 {α : Type} {l : List α} {a0 a1 a2 : α} (h : l.length = 3) (h0 : l[0]? = some a0) (h1 : l[1]? = some a1) (h2 : l[2]? = some a2) : l = [a0, a1, a2] := by
  match l, h with
  | [_, _, _], _ => simp_all
theorem list4 {α : Type} {l : List α} {a0 a1 a2 a3 : α} (h : l.length = 4) (h0 : l[0]? = some a0) (h1 : l[1]? = some a1) (h2 : l[2]? = some a2) (h3 : l[3]? = some a3) : l = [a0, a1, a2, a3] := by
  match l, h with
  | [_, _, _, _], _ => simp_all
theorem list5 {α : Type} {l : List α} {a0 a1 a2 a3 a4 : α} (h : l.length = 5) (h0 : l[0]? = some a0) (h1 : l[1]? = some a1) (h2 : l[2]? = some a2) (h3 : l[3]? = some a3) (h4 : l[4]? = some a4) : l = [a0, a1, a2, a3, a4] := by
  match l, h with
  | [_, _, _, _, _], _ => simp_all
theorem list6 {α : Type} {l : List α} {a0 a1 a2 a3 a4 a5 : α} (h : l.length = 6) (h0 : l[0]? = some a0) (h1 : l[1]? = some a1) (h2 : l[2]? = some a2) (h3 : l[3]? = some a3) (h4 : l[4]? = some a4) (h5 : l[5]? = some a5) : l = [a0, a1, a2, a3, a4, a5] := by
  match l, h with
  | [_, _, _, _, _, _], _ => simp_all
theorem list7 {α : Type} {l : List α} {a0 a1 a2 a3 a4 a5 a6 : α} (h : l.length = 7) (h0 : l[0]? = some a0) (h1 : l[1]? = some a1) (h2 : l[2]? = some a2) (h3 : l[3]? = some a3) (h4 : l[4]? = some a4) (h5 : l[5]? = some a5) (h6 : l[6]? = some a6) : l = [a0, a1, a2, a3, a4, a5, a6] := by
  match l, h with
  | [_, _, _, _, _, _, _], _ => simp_all
theorem list8 {α : Type} {l : List α} {a0 a1 a2 a3 a4 a5 a6 a7 : α} (h : l.length = 8) (h0 : l[0]? = some a0) (h1 : l[1]? = some a1) (h2 : l[2]? = some a2) (h3 : l[3]? = some a3) (h4 : l[4]? = some a4) (h5 : l[5]? = some a5) (h6 : l[6]? = some a6) (h7 : l[7]? = some a7) : l = [a0, a1, a2, a3, a4, a5, a6, a7] := by
  match l, h with
  | [_, _, _, _, _, _, _, _], _ => simp_all
end Go.Proofs.Ytapelgjnnccfoaa

/-
  A tensor as a value: in memory, and as (a part of) an argument.
-/
namespace Go.Proofs.Ytapelgjnnccfoaa
open Go.RowKit Go.ChangeShapes Go.WideShapes Go.Deep
set_option linter.unusedVariables false
set_option linter.unusedSimpArgs false

/-- A tensor as a value: where its rows lie, and what they hold. -/
structure TV where
  sa : Option Addr
  sl : Nat
  sc : Nat
  ss : List Int
  ca : Option Addr
  cl : Nat
  cc : Nat
  cs : List Int
def TV.s (t : TV) : Value := .slice t.sa t.sl t.sc
def TV.c (t : TV) : Value := .slice t.ca t.cl t.cc
def TV.At (t : TV) (w : World) : Prop := IntsAt w t.sa t.sl t.ss ∧ IntsAt w t.ca t.cl t.cs ∧ t.sl ≤ 17592186044416 ∧ t.cl ≤ 17592186044416
theorem TV.At.kept {t : TV} {w w' : World} (h : t.At w) (hb : Below w.heap.size w w') : t.At w' := ⟨h.1.kept hb, h.2.1.kept hb, h.2.2⟩
instance : Inhabited TV := ⟨⟨none, 0, 0, [], none, 0, 0, []⟩⟩

/-- Its cells lie within their row. -/
def TV.Cap (t : TV) : Prop := t.cl ≤ t.cc ∧ t.cc ≤ 9223372036854775807

section
variable {H : Type} {enc : TypeId × Value → H} {P : Program} {w : World} {base : Nat} {spare : Nat → Bool} {held : Bool}

theorem field_ints_sized {t e : TypeId} {fuel : Nat} {c : Value} {x : DataW H × List MemPlace} (ht : P.underlying t = some (.slice e)) (he : P.underlying e = some (.int .i64)) (hc : P.cellsOf e = 1) (hb : P.bytesOf e = 8)
    (h : DataW.trod enc P w base spare held fuel t [c] = some x) (hw : ∀ n ∈ x.1.weights P t, n ≤ reachBytes) : ∃ a len cap zs, c = .slice a len cap ∧ IntsAt w a len zs ∧ len ≤ 17592186044416 ∧ len ≤ cap ∧ cap ≤ 9223372036854775807 := by
  rcases open_ints ht he hc h with ⟨hcs, -⟩ | ⟨a, len, cap, zs, hcs, -, hl, hm, hz, hx, hcell, hwz⟩
  · obtain rfl := (List.cons.inj hcs).1
    exact ⟨_, _, _, _, rfl, IntsAt.nil _ _, by omega, by omega, by omega⟩
  · obtain rfl := (List.cons.inj hcs).1
    have hz' : zs.length = cap ∨ zs.length = len := by
      split at hz
      · exact .inl hz
      · exact .inr hz
    have hlz : len ≤ zs.length := by omega
    have hwt : zs.length * 8 ≤ reachBytes := by
      have := hw (zs.length * 8) (by
        rw [hx]
        simp only [DataW.weights, ht, List.mem_cons]
        refine .inl ?_
        rw [hb]
        simp [lits]
        omega)
      exact this
    have hr : reachBytes = 140737488351232 := by decide
    rw [hr] at hwt
    refine ⟨_, _, cap, zs.take len, rfl, ?_, by omega, hl, by unfold maxLen at hm; omega⟩
    rcases hz' with hs | hs
    · exact IntsAt.of_row hl hm hs hcell hwz
    · exact IntsAt.of_row (cap := len) (Nat.le_refl _) (by omega) hs hcell hwz
end

theorem gcellsS : Try.prog.cellsOf 23 = 1 := by kernel_rfl
theorem gcellsF : Try.prog.cellsOf 32 = 1 := by kernel_rfl
theorem gcellsG : Try.prog.cellsOf 34 = 2 := by kernel_rfl
theorem gbytesG : Try.prog.bytesOf 34 = 48 := by kernel_rfl
theorem gbytesI : Try.prog.bytesOf 3 = 8 := by kernel_rfl
theorem gbytesF : Try.prog.bytesOf 56 = 8 := by kernel_rfl

section
variable {H : Type} {enc : TypeId × Value → H} {w : World} {base : Nat} {spare : Nat → Bool} {held : Bool}
/-- A tensor's two cells, opened. -/
theorem grid_sized {n : Nat} {v0 v1 : Value} {d0 d1 : DataW H} {p0 p1 : List MemPlace} (h0 : DataW.trod enc Try.prog w base spare held n 23 [v0] = some (d0, p0)) (h1 : DataW.trod enc Try.prog w base spare held n 32 [v1] = some (d1, p1))
    (w0 : ∀ n ∈ d0.weights Try.prog 23, n ≤ reachBytes) (w1 : ∀ n ∈ d1.weights Try.prog 32, n ≤ reachBytes) :
    ∃ t : TV, v0 = .slice t.sa t.sl t.sc ∧ v1 = .slice t.ca t.cl t.cc ∧ t.At w ∧ t.Cap := by
  obtain ⟨sa, sl, sc, ss, rfl, i0, l0, -, -⟩ := field_ints_sized Try.underlying23 Try.underlying3 (by kernel_rfl) gbytesI h0 w0
  obtain ⟨ca, cl, cc, cs, rfl, i1, l1, m1, m2⟩ := field_ints_sized Try.underlying32 Try.underlying56 (by kernel_rfl) gbytesF h1 w1
  exact ⟨⟨sa, sl, sc, ss, ca, cl, cc, cs⟩, rfl, rfl, ⟨i0, i1, l0, l1⟩, m1, m2⟩

theorem agg_weights {d0 d1 : DataW H} {n : Nat} (h : n ∈ d0.weights Try.prog 23 ∨ n ∈ d1.weights Try.prog 32) : n ∈ (DataW.agg [d0, d1]).weights Try.prog 34 := by
  simp only [DataW.weights, Try.underlying34]
  show n ∈ DataW.weightsEach Try.prog [23, 32] [d0, d1]
  simp only [DataW.weightsEach, List.mem_append, List.append_nil]
  exact h

theorem grid_one2 {fuel : Nat} {c0 c1 : Value} {x : DataW H × List MemPlace} (h : DataW.trod enc Try.prog w base spare held fuel 34 [c0, c1] = some x) (hw : ∀ n ∈ x.1.weights Try.prog 34, n ≤ reachBytes) :
    ∃ t : TV, c0 = .slice t.sa t.sl t.sc ∧ c1 = .slice t.ca t.cl t.cc ∧ t.At w ∧ t.Cap := by
  obtain ⟨xs, n, -, hxy, -, hxl, hat⟩ := DataW.trod_struct Try.underlying34 h
  match xs, hxl with
  | [(d0, p0), (d1, p1)], _ =>
    have h0 := hat 0 _ rfl
    have h1 := hat 1 _ rfl
    have g0 : DataW.trod enc Try.prog w base spare held n 23 (([c0, c1].drop 0).take (Try.prog.cellsOf 23)) = some (d0, p0) := h0
    have g1 : DataW.trod enc Try.prog w base spare held n 32 (([c0, c1].drop 1).take (Try.prog.cellsOf 32)) = some (d1, p1) := h1
    rw [gcellsS] at g0
    rw [gcellsF] at g1
    have ex : x.1 = .agg [d0, d1] := by rw [hxy]; rfl
    rw [ex] at hw
    exact grid_sized (n := n) (v0 := c0) (v1 := c1) g0 g1 (fun n hn => hw n (agg_weights (.inl hn))) (fun n hn => hw n (agg_weights (.inr hn)))

theorem grid_one {fuel : Nat} {c0 c1 : Value} {x : DataW H × List MemPlace} (h : DataW.trod enc Try.prog w base spare held fuel 34 [c0, c1] = some x) (hw : ∀ n ∈ x.1.weights Try.prog 34, n ≤ reachBytes) :
    ∃ t : TV, c0 = .slice t.sa t.sl t.sc ∧ c1 = .slice t.ca t.cl t.cc ∧ t.At w := by
  obtain ⟨t, a, b, c, -⟩ := grid_one2 h hw
  exact ⟨t, a, b, c⟩
end
end Go.Proofs.Ytapelgjnnccfoaa

/-
  Contracts of package tensor: place, Get, With, Of.
-/
namespace Go.Proofs.Ytapelgjnnccfoaa
open Go.RowKit
set_option linter.unusedVariables false
set_option linter.unusedSimpArgs false

def tplaceN (ss : List Int) (n : Nat) (l : List Int) : Int := if rightT ss n = true then placeN ss l else 0
def tplaceE (ss : List Int) (n : Nat) (l : List Int) : Int := if rightT ss n = true then placeE ss l else 20
theorem tplace_no {ss : List Int} {n : Nat} {l : List Int} (h : rightT ss n = false) : 0 = tplaceN ss n l ∧ 20 = tplaceE ss n l := by simp [tplaceN, tplaceE, h]
theorem tplace_yes {ss : List Int} {n : Nat} {l : List Int} (h : rightT ss n = true) : placeN ss l = tplaceN ss n l ∧ placeE ss l = tplaceE ss n l := by simp [tplaceN, tplaceE, h]

/-- Where there is such a place it is one of the cells. -/
theorem tplace_cell {ss : List Int} {n : Nat} {l : List Int} (h : tplaceE ss n l = 0) : ∃ k : Nat, k < n ∧ tplaceN ss n l = k := by
  unfold tplaceE at h
  by_cases hr : rightT ss n = true
  · rw [if_pos hr] at h
    obtain ⟨h1, h2⟩ := rightT_parts hr
    unfold placeE at h
    rw [if_pos h1] at h
    by_cases ha : atOk ss l = true
    · obtain ⟨p1, p2⟩ := numP_lt h1 ha
      refine ⟨(numP (ss.zip l)).toNat, by omega, ?_⟩
      simp only [tplaceN, placeN, hr, h1, ha, and_self, if_true]
      omega
    · rw [if_neg ha] at h; omega
  · rw [if_neg hr] at h; omega
theorem tplace_none {ss : List Int} {n : Nat} {l : List Int} (h : tplaceE ss n l ≠ 0) : tplaceN ss n l = 0 := by
  unfold tplaceE at h
  unfold tplaceN
  by_cases hr : rightT ss n = true
  · rw [if_pos hr] at h ⊢
    obtain ⟨h1, h2⟩ := rightT_parts hr
    unfold placeE at h
    unfold placeN
    rw [if_pos h1] at h
    by_cases ha : atOk ss l = true
    · rw [if_pos ha] at h; exact absurd rfl h
    · rw [if_neg (fun hh => ha hh.2)]
  · rw [if_neg hr]

/-- No tensor and this error. -/
def NilT (w : World) (x : Int) (e : Ending) (w' : World) : Prop := e = .returned (.tuple #[.agg #[.slice none 0 0, .slice none 0 0], .int .i64 x]) ∧ Below w.heap.size w w'
/-- A new tensor and no error. -/
def OkT (w : World) (sl : Nat) (ss : List Int) (cl : Nat) (cs : List Int) (e : Ending) (w' : World) : Prop := ∃ v, e = .returned (.tuple #[v, .int .i64 0]) ∧ NewT w sl ss cl cs v w'

end Go.Proofs.Ytapelgjnnccfoaa
/-
  Contracts of package tensor: With, Of.
-/
namespace Go.Proofs.Ytapelgjnnccfoaa
open Go.RowKit
set_option linter.unusedVariables false
set_option linter.unusedSimpArgs false

theorem row_apart {w : World} {B : Nat} {e : TypeId} {k : Nat} {v : Value} {n : Nat} {xs : List Value} {p : Addr} {u : Value} (h : w.ownsRow B e k v n xs) (hp : ∀ q, v.ownBlock = some q → q ≠ p.block) : (w.setCell p u).ownsRow B e k v n xs := by
  rcases h.2 with h2 | ⟨g, cap, cur, hv, hbg, hg, rest⟩
  · exact ⟨h.1, .inl h2⟩
  · exact ⟨h.1, .inr ⟨g, cap, cur, hv, hbg, (Below.heap_setCell w p u g (hp g (by rw [hv]; rfl))).trans hg, rest⟩⟩

end Go.Proofs.Ytapelgjnnccfoaa
/-
  Contracts of package tensor: Equal (its deferred closure finds no panic), Make.
-/
namespace Go.Proofs.Ytapelgjnnccfoaa
open Go.RowKit
set_option linter.unusedVariables false
set_option linter.unusedSimpArgs false

theorem catch_idle (p : Addr) (w : World) :
    CallsD Try.prog 43 #[.pointer (some p)] .returning w fun e u' w' => e = .returned (.tuple #[]) ∧ u' = .returning ∧ w' = w := by
  refine callsD_of_wpS Try.func43 rfl fun c₀ cs hu => ?_
  apply wpS_seq
  apply wpS_region
  simp [wpOpsS, go_sem, recoverD, hu, Try.ntmps43, Exit.thenS]
  refine wpS_cond (t := false) (by simp [Act.eval, Array.replicate]) ?_
  simp only [Bool.false_eq_true, if_false]
  refine wpS_of_wp (wp_skip ?_)
  cases c₀
  simp_all [bodyPostS, results, Try.results43]

/-- Both tensors have the same shape and the same cells. -/
def sameT (s1 c1 s2 c2 : List Int) : Bool := sameL s1 s2 && sameL c1 c2

theorem bool_box (w : World) (x : Bool) : ∃ wB, Hid (w.alloc (.cells #[.bool x] 4) = wB) ∧ Hid (wB.heap[w.heap.size]? = some (.cells #[.bool x] 4 (0, 0))) ∧ Hid (Below w.heap.size w wB) ∧ Hid (wB.heap.size = w.heap.size + 1) :=
  ⟨_, Lib.hid rfl, Lib.hid (World.alloc_heap_new w _), Lib.hid ((Below.refl _ _).alloc (Nat.le_refl _) _), Lib.hid (by simp)⟩

set_option maxHeartbeats 2000000 in
theorem tequal_any (sa : Option Addr) (sl sc : Nat) (ss : List Int) (ca : Option Addr) (cl cc : Nat) (cs : List Int) (sa2 : Option Addr) (sl2 sc2 : Nat) (ss2 : List Int) (ca2 : Option Addr) (cl2 cc2 : Nat) (cs2 : List Int) (w : World)
    (h : IntsAt w sa sl ss) (hc : IntsAt w ca cl cs) (h2 : IntsAt w sa2 sl2 ss2) (hc2 : IntsAt w ca2 cl2 cs2) :
    Calls Try.prog 25 #[.agg #[.slice sa sl sc, .slice ca cl cc], .agg #[.slice sa2 sl2 sc2, .slice ca2 cl2 cc2]] w fun e w' => e = .returned (.bool (sameT ss cs ss2 cs2)) ∧ Below w.heap.size w w' := by
  have hmf : ∀ (fn : Fn) (first cap : Array Value) (w : World), (Instr.makeFunc fn first cap).run Try.prog w = .ok (.func fn first cap) w := fun _ _ _ _ => rfl
  obtain ⟨wA, hwA, J1, z1, n1⟩ := grid_box w (.slice sa sl sc) (.slice ca cl cc)
  obtain ⟨wB, hwB, J2, z2, n2⟩ := grid_box wA (.slice sa2 sl2 sc2) (.slice ca2 cl2 cc2)
  obtain ⟨wC, hwC, J3, z3, n3⟩ := bool_box wB false
  rw [n1.out] at J2
  rw [n2.out, n1.out] at J3
  have z12 := z1.out.trans (z2.out.mono z1.out.size)
  have z := Lib.hid (z12.trans (z3.out.mono z12.size))
  have J1' := Lib.hid ((J1.out.kept z2.out).kept z3.out)
  have J2' := Lib.hid (J2.out.kept z3.out)
  have F := equal_any sa sl sc ss sa2 sl2 sc2 ss2 wC (h.kept z.out) (h2.kept z.out)
  have G := Lib.hid (fun n => sliceEqualF_any ca cl cc cs ca2 cl2 cc2 cs2 (wC.drewN n) ((hc.kept z.out).kept (below_drewN' (Below.refl _ _) n)) ((hc2.kept z.out).kept (below_drewN' (Below.refl _ _) n)))
  clear h hc h2 hc2 z12 J1 J2
  have b0 : wC.cell? ⟨w.heap.size + 1 + 1, 0, none⟩ = some (.bool false) := by rw [Joins.cell_of_block J3.out]; rfl
  have b1 : wC.frozen? ⟨w.heap.size + 1 + 1, 0, none⟩ = false := Joins.unfrozen_of_block J3.out 0
  have L : Hid (∀ (n : Nat) (x : Bool), ((wC.drewN n).setCell ⟨w.heap.size + 1 + 1, 0, none⟩ (.bool x)).cell? ⟨w.heap.size + 1 + 1, 0, none⟩ = some (.bool x) ∧ Below w.heap.size w ((wC.drewN n).setCell ⟨w.heap.size + 1 + 1, 0, none⟩ (.bool x))) := Lib.hid (fun n x => by
    refine ⟨?_, (below_drewN' z.out n).setCell (by show w.heap.size ≤ w.heap.size + 1 + 1; omega) _⟩
    have h1 := Joins.block_setCell (w := wC.drewN n) (i := 0) J3.out (.bool x)
    rw [Joins.cell_of_block h1]; rfl)
  obtain ⟨i0, i1, -, -⟩ := J1'.out.see
  obtain ⟨j0, j1, -, -⟩ := J2'.out.see
  cases b : sameL ss ss2
  · rw [b] at F
    have F1 := Lib.hid F
    have E : Hid (sameT ss cs ss2 cs2 = false) := Lib.hid (by simp [sameT, b])
    rw [E.out]
    clear F b G E
    go_enter_defers Try.func25, Try.ntmps25
    go_upto_region 2 with (fail)
    rw [hwA.out, hwB.out, hwC.out]
    go_wp2_with fail
    refine F1.out.mono ?_
    rintro e w1 ⟨rfl, n, rfl⟩
    go_wp2_with fail
    obtain ⟨l0, l1⟩ := L.out n false
    have l1' := Lib.hid l1
    clear l1
    obtain ⟨w4, hw4⟩ : ∃ w4, (wC.drewN n).setCell ⟨w.heap.size + 1 + 1, 0, none⟩ (.bool false) = w4 := ⟨_, rfl⟩
    rw [hw4] at l0 l1' ⊢
    refine leaves_cons (f := 43) (args := #[.pointer (some ⟨w.heap.size + 1 + 1, 0, none⟩)]) (by simp) (by simp [go_sem]) ?_
    refine (catch_idle ⟨w.heap.size + 1 + 1, 0, none⟩ _).mono ?_
    rintro e u' w'' ⟨rfl, rfl, rfl⟩
    simp [Leaves, settle, results, Try.results25, go_sem, l0]
    exact l1'.out
  · rw [b] at F
    have F1 := Lib.hid F
    have E : Hid (sameT ss cs ss2 cs2 = sameL cs cs2) := Lib.hid (by simp [sameT, b])
    rw [E.out]
    clear F b E
    obtain ⟨x, hx⟩ : ∃ x, sameL cs cs2 = x := ⟨_, rfl⟩
    rw [hx] at G ⊢
    clear hx
    go_enter_defers Try.func25, Try.ntmps25
    go_upto_region 2 with (fail)
    rw [hwA.out, hwB.out, hwC.out]
    go_wp2_with fail
    refine F1.out.mono ?_
    rintro e w1 ⟨rfl, n, rfl⟩
    go_wp2_with fail
    refine (G.out n).mono ?_
    rintro e w1 ⟨rfl, m, rfl⟩
    go_wp2_with fail
    obtain ⟨l0, l1⟩ := L.out (n + m) x
    have l1' := Lib.hid l1
    clear l1
    obtain ⟨w4, hw4⟩ : ∃ w4, (wC.drewN (n + m)).setCell ⟨w.heap.size + 1 + 1, 0, none⟩ (.bool x) = w4 := ⟨_, rfl⟩
    rw [hw4] at l0 l1' ⊢
    refine leaves_cons (f := 43) (args := #[.pointer (some ⟨w.heap.size + 1 + 1, 0, none⟩)]) (by simp) (by simp [go_sem]) ?_
    refine (catch_idle ⟨w.heap.size + 1 + 1, 0, none⟩ _).mono ?_
    rintro e u' w'' ⟨rfl, rfl, rfl⟩
    simp [Leaves, settle, results, Try.results25, go_sem, l0]
    exact l1'.out

theorem f_made (t : TypeId) (ht : Try.prog.underlying t = some (.slice 56)) (len : Nat) (hl : len ≤ 65536) : ∀ w, (Instr.makeSlice t (.int .i64 len) (.int .i64 len)).run Try.prog w = .ok (.slice (some ⟨w.heap.size, 0, none⟩) len len) (w.alloc (.cells (madeCells #[.int .i64 0] len) 56)) := by
  intro w
  obtain ⟨i0, hi, hz0, hz1, hz2⟩ := info_parts fInfo
  have := run_make (P := Try.prog) w t 56 i0 _ ht hi hz0 .i64 .i64 len len (by omega) (by omega) (by rw [hz2]; omega) (by omega)
  rw [this, hz1]
  simp [Value.cells]

set_option maxHeartbeats 1000000 in
theorem make_no (sa : Option Addr) (sl sc : Nat) (ss : List Int) (x : Int) (w : World) (h : IntsAt w sa sl ss) (hr : rightS ss = false) :
    Calls Try.prog 24 #[.slice sa sl sc, .int .i64 x] w (NilT w 20) := by
  obtain ⟨wA, hwA, J1, z1, n1⟩ := grid_box w (.slice none 0 0) (.slice none 0 0)
  have C := size_any sa sl sc ss wA (h.kept z1.out)
  rw [sizeE_no hr, sizeN_no hr] at C
  have C1 := Lib.hid C
  clear C h hr
  go_enter Try.func24, Try.ntmps24
  go_upto_region 1 with (fail)
  rw [hwA.out]
  go_wp2_with fail
  refine C1.out.mono ?_
  rintro e w1 ⟨rfl, hb1⟩
  obtain ⟨e0, e1, f0, f1⟩ := (J1.out.kept hb1).see
  obtain ⟨h0, h1, -, -⟩ := ((J1.out.kept hb1).set (.slice none 0 0) (.slice none 0 0)).see
  have Z : Below w.heap.size w ((w1.setCell ⟨w.heap.size, 0, none⟩ (.slice none 0 0)).setCell ⟨w.heap.size, 1, none⟩ (.slice none 0 0)) :=
    ((z1.out.trans (hb1.mono z1.out.size)).setCell (Nat.le_refl _) _).setCell (Nat.le_refl _) _
  go_wp2_with fail
  refine bodyPost_ret (v := .tuple #[.agg #[.slice none 0 0, .slice none 0 0], .int .i64 20]) ?_ rfl ⟨rfl, Z⟩
  simp [results, Try.results24, go_sem, h0, h1]

/-- A row of n numbers, of which the first k are x, the rest 0. -/
def fillR (n k : Nat) (x : Int) : List Int := List.replicate k x ++ List.replicate (n - k) 0
theorem fillR_none (n : Nat) (x : Int) : fillR n 0 x = List.replicate n 0 := by simp [fillR]
theorem fillR_all (n : Nat) (x : Int) : fillR n n x = List.replicate n x := by simp [fillR]
theorem fillR_length {n k : Nat} (x : Int) (h : k ≤ n) : (fillR n k x).length = n := by simp [fillR]; omega
theorem fillR_set {n k : Nat} (x : Int) (h : k < n) : (fillR n k x).set k x = fillR n (k + 1) x := by
  unfold fillR
  rw [List.set_append_right _ _ (by simp), List.length_replicate, Nat.sub_self, show n - k = (n - (k + 1)) + 1 by omega, List.replicate_succ, List.set_cons_zero, List.replicate_succ']
  simp

set_option maxHeartbeats 2000000 in
theorem make_ok (sa : Option Addr) (sl sc : Nat) (ss : List Int) (x : Int) (w : World) (h : IntsAt w sa sl ss) (hr : rightS ss = true) (N : Nat) (hN : prodI ss = N) :
    Calls Try.prog 24 #[.slice sa sl sc, .int .i64 x] w (OkT w sl ss N (List.replicate N x)) := by
  obtain ⟨wA, hwA, J1, z1, n1⟩ := grid_box w (.slice none 0 0) (.slice none 0 0)
  have C := size_any sa sl sc ss wA (h.kept z1.out)
  rw [sizeE_yes hr, sizeN_yes hr, hN] at C
  have C1 := Lib.hid C
  have hl4 : sl ≤ 4 := by have := (rightS_parts hr).2.1; have := h.1; omega
  have hN6 : N ≤ 65536 := by have := (rightS_parts hr).2.2.2; omega
  have D := Lib.hid (fun w1 (hb : Below wA.heap.size wA w1) => copy_any sa sl sc ss w1 ((h.kept z1.out).kept hb) (by omega))
  have hmk := f_made 32 Try.underlying32 N hN6
  clear C h hr hN
  go_enter Try.func24, Try.ntmps24
  go_upto_region 1 with (fail)
  rw [hwA.out]
  go_wp2_with fail
  refine C1.out.mono ?_
  rintro e w1 ⟨rfl, hb1⟩
  go_upto_region 5 with (fail)
  obtain ⟨w2, hw2⟩ : ∃ w2, w1.alloc (.cells (madeCells #[.int .i64 0] N) 56) = w2 := ⟨_, rfl⟩
  have ho : Hid (w2.ownsRow w1.heap.size 56 1 (.slice (some ⟨w1.heap.size, 0, none⟩) N N) N ((fillR N 0 x).map (Value.int .i64))) := by
    have := World.ownsRow_lit w1 (base := w1.heap.size) (e := 56) (size := 1) (madeCells #[.int .i64 0] N) N (Nat.le_refl _) (by unfold maxLen; omega) (by rw [size_madeCells]; omega)
    rw [toList_madeCells_one, hw2] at this
    rw [fillR_none]
    refine Lib.hid ?_
    simpa using this
  have zb : Below w1.heap.size w1 w2 := by rw [← hw2]; exact (Below.refl _ _).alloc (Nat.le_refl _) _
  have hb2 := Lib.hid zb
  rw [hw2]
  clear hw2 zb hmk C1
  go_wp2_with fail
  go_loopw [23] (fun i wr => ∃ k : Nat, k ≤ N ∧ i = .int .i64 k ∧ Hid (wr.ownsRow w1.heap.size 56 1 (.slice (some ⟨w1.heap.size, 0, none⟩) N N) N ((fillR N k x).map (Value.int .i64))) ∧ Hid (Below w1.heap.size w1 wr)) (fun i _ => N - (intOf i).toNat)
  case atStart => exact ⟨0, Nat.zero_le _, rfl, ho, hb2⟩
  case round =>
    obtain ⟨k, hk, rfl, hrow, hbr⟩ := hrel
    by_cases hlt : k < N
    · obtain ⟨y, hy⟩ : ∃ y, wr.cell? ⟨w1.heap.size, k, none⟩ = some y := by
        have e : wr.cell? ⟨w1.heap.size, k, none⟩ = ((fillR N k x).map (Value.int .i64))[k]? := hrow.out.cellAt k (by omega)
        rw [List.getElem?_eq_getElem (by rw [List.length_map, fillR_length x hk]; exact hlt)] at e
        exact ⟨_, e⟩
      have hf := hrow.out.frozenAt k
      obtain ⟨ho4, hg4⟩ := hrow.out.stored k (.int .i64 x)
      rw [← List.map_set, fillR_set x hlt] at ho4
      have ho4' := Lib.hid ho4
      have hb4 := Lib.hid (hbr.out.setCell (p := ⟨w1.heap.size, k, none⟩) (Nat.le_refl _) (.int .i64 x))
      clear ho4 hg4
      go_wp2_with fail
      go_roundw
      case rel => exact ⟨k + 1, by omega, by go_num, ho4', hb4⟩
      case measure => (simp [intOf]; try omega)
    · obtain rfl : k = N := by omega
      rw [fillR_all] at hrow
      have hb3 := Lib.hid (hb1.trans (hbr.out.mono hb1.size))
      go_wp2_with fail
      refine (D.out wr hb3.out).mono ?_
      rintro e w4 ⟨A, c, rfl, ho5, hb5⟩
      have hb6 := hb3.out.trans (hb5.mono hb3.out.size)
      have J2 := J1.out.kept hb6
      obtain ⟨e0, e1, f0, f1⟩ := J2.see
      obtain ⟨h0, h1, -, -⟩ := (J2.set (.slice A sl c) (.slice (some ⟨w1.heap.size, 0, none⟩) k k)).see
      have hw1 : w.heap.size < w1.heap.size := by have := n1.out; have := hb1.size; omega
      have hw4 : w1.heap.size < wr.heap.size := by
        by_cases h0 : 0 < k
        · exact (hrow.out.lt w1.heap.size rfl).2
        · exact (hrow.out.lt w1.heap.size rfl).2
      have P : NewT w sl ss k (List.replicate k x) (.agg #[.slice A sl c, .slice (some ⟨w1.heap.size, 0, none⟩) k k]) ((w4.setCell ⟨w.heap.size, 0, none⟩ (.slice A sl c)).setCell ⟨w.heap.size, 1, none⟩ (.slice (some ⟨w1.heap.size, 0, none⟩) k k)) := by
        refine ⟨A, c, _, k, rfl, Joins.ownsRow_le (row_far (row_far ho5 ?_) ?_) ?_, Joins.ownsRow_le (row_far (row_far (row_kept hrow.out hb5) hw1) hw1) (Nat.le_of_lt hw1), ?_, ?_⟩
        · exact Nat.lt_trans hw1 hw4
        · exact Nat.lt_trans hw1 hw4
        · exact Nat.le_of_lt (Nat.lt_trans hw1 hw4)
        · rintro p q rfl hq
          cases hq
          have := (ho5.lt p.block rfl).1
          show p.block ≠ w1.heap.size
          omega
        · exact ((z1.out.trans (hb6.mono z1.out.size)).setCell (Nat.le_refl _) _).setCell (Nat.le_refl _) _
      have P' := Lib.hid P
      clear P ho5 hb5 hb6 J2 hw1 hw4
      go_wp2_with fail
      refine bodyPost_ret (v := .tuple #[.agg #[.slice A sl c, .slice (some ⟨w1.heap.size, 0, none⟩) k k], .int .i64 0]) ?_ rfl ⟨_, rfl, P'.out⟩
      simp [results, Try.results24, go_sem, h0, h1]
end Go.Proofs.Ytapelgjnnccfoaa

/-
  Plain mathematics of saturating fixed-point numbers: rounding to the nearest, ties to even; saturation. No program is named here.
-/
namespace Go.Proofs.Ytapelgjnnccfoaa
set_option linter.unusedVariables false
set_option linter.unusedSimpArgs false

/-- The magnitude. -/
def mag (x : Int) : Int := if x < 0 then -x else x
theorem mag_bounds (x : Int) (h1 : -9223372036854775808 ≤ x) (h2 : x ≤ 9223372036854775807) : 0 ≤ mag x ∧ mag x ≤ 9223372036854775808 := by
  unfold mag; split <;> omega
theorem mag_neg (x : Int) (h : x < 0) : mag x = -x := by unfold mag; rw [if_pos h]
theorem mag_pos (x : Int) (h : 0 ≤ x) : mag x = x := by unfold mag; rw [if_neg (by omega)]

/-- The number with a sign and a magnitude, saturated. -/
def sgn (neg : Bool) (m : Int) : Int :=
  if m < 9223372036854775808 then (if neg then -m else m) else if neg then -9223372036854775808 else 9223372036854775807

/-- Rounding up is due: the rest is more than half of the unit, or just half and the whole is odd. -/
def up (whole rest unit : Int) : Bool := decide (unit < 2 * rest) || (decide (unit = 2 * rest) && decide (whole % 2 = 1))

/-- Rounded to the nearest, ties to even; what is at least 2^63 stays as it is. -/
def rnd (whole rest unit : Int) : Int := if up whole rest unit = true ∧ whole < 9223372036854775808 then whole + 1 else whole

/-- Rounded without the cap. -/
def rndFull (whole rest unit : Int) : Int := if up whole rest unit = true then whole + 1 else whole

theorem sgn_rnd (neg : Bool) (whole rest unit : Int) : sgn neg (rnd whole rest unit) = sgn neg (rndFull whole rest unit) := by
  unfold rnd rndFull
  by_cases hu : up whole rest unit = true
  · by_cases hw : whole < 9223372036854775808
    · simp [hu, hw]
    · have h2 : ¬ whole + 1 < 9223372036854775808 := by omega
      simp [hu, hw, sgn, h2]
  · simp [hu]

theorem sgn_bounds (neg : Bool) (m : Int) (h : 0 ≤ m) : -9223372036854775808 ≤ sgn neg m ∧ sgn neg m ≤ 9223372036854775807 := by
  unfold sgn
  split <;> split <;> omega
theorem sgn_big (neg : Bool) (m : Int) (h : 9223372036854775808 ≤ m) : sgn neg m = if neg then -9223372036854775808 else 9223372036854775807 := by
  unfold sgn; rw [if_neg (by omega)]

/-- Saturation. -/
def sat (z : Int) : Int := if z < -9223372036854775808 then -9223372036854775808 else if 9223372036854775807 < z then 9223372036854775807 else z

theorem sat_bounds (z : Int) : -9223372036854775808 ≤ sat z ∧ sat z ≤ 9223372036854775807 := by
  unfold sat
  split
  · omega
  · split <;> omega
theorem sat_in (z : Int) (h1 : -9223372036854775808 ≤ z) (h2 : z ≤ 9223372036854775807) : sat z = z := by
  unfold sat; rw [if_neg (by omega), if_neg (by omega)]
theorem sat_hi (z : Int) (h2 : 9223372036854775807 ≤ z) : sat z = 9223372036854775807 := by
  unfold sat; rw [if_neg (by omega)]; split <;> omega
theorem sat_lo (z : Int) (h2 : z ≤ -9223372036854775808) : sat z = -9223372036854775808 := by
  unfold sat; split
  · rfl
  · rw [if_neg (by omega)]; omega

/-- The product of two numbers. -/
def mulF (x y : Int) : Int := sgn (decide (x < 0) != decide (y < 0)) (rndFull (mag x * mag y / 4294967296) (mag x * mag y % 4294967296) 4294967296)

/-- The quotient of two numbers. -/
def divF (x y : Int) : Int :=
  if x = 0 then 0
  else if y = 0 then (if x < 0 then -9223372036854775808 else 9223372036854775807)
  else sgn (decide (x < 0) != decide (y < 0)) (rndFull (mag x * 4294967296 / mag y) (mag x * 4294967296 % mag y) (mag y))

theorem mulF_bounds (x y : Int) : -9223372036854775808 ≤ mulF x y ∧ mulF x y ≤ 9223372036854775807 := by
  apply sgn_bounds
  have hx : 0 ≤ mag x := by unfold mag; split <;> omega
  have hy : 0 ≤ mag y := by unfold mag; split <;> omega
  have h : 0 ≤ mag x * mag y := Int.mul_nonneg hx hy
  unfold rndFull
  split <;> omega
theorem divF_bounds (x y : Int) : -9223372036854775808 ≤ divF x y ∧ divF x y ≤ 9223372036854775807 := by
  unfold divF
  split
  · omega
  · split
    · split <;> omega
    · apply sgn_bounds
      have hx : 0 ≤ mag x * 4294967296 := by unfold mag; split <;> omega
      have hy : 0 ≤ mag y := by unfold mag; split <;> omega
      have h : 0 ≤ mag x * 4294967296 / mag y := Int.ediv_nonneg hx hy
      unfold rndFull
      split <;> omega

/-- The magnitude of a product, rounded; 2^63 if it is far too great. -/
def prodF (a b : Int) : Int := if a * b < 79228162514264337593543950336 then rnd (a * b / 4294967296) (a * b % 4294967296) 4294967296 else 9223372036854775808

theorem sgn_prodF (neg : Bool) (a b : Int) : sgn neg (prodF a b) = sgn neg (rndFull (a * b / 4294967296) (a * b % 4294967296) 4294967296) := by
  unfold prodF
  by_cases h : a * b < 79228162514264337593543950336
  · rw [if_pos h, sgn_rnd]
  · rw [if_neg h, sgn_big _ _ (by omega), sgn_big _ _ (by unfold rndFull; split <;> omega)]
theorem prodF_bounds (a b : Int) (h : 0 ≤ a * b) : 0 ≤ prodF a b ∧ prodF a b < 18446744073709551616 := by
  unfold prodF rnd
  split
  · split <;> omega
  · omega

/-- Within bounds; the upper one is compared first. -/
def clampF (x lo hi : Int) : Int := if hi < x then hi else if x < lo then lo else x

/-- A magnitude with a sign; beyond all bounds if over is true. -/
def heldF (n : Int) (over neg : Bool) : Int := sgn neg (if over = true then 9223372036854775808 else n)
theorem heldF_false (n : Int) (neg : Bool) : heldF n false neg = sgn neg n := rfl
theorem heldF_true (n : Int) (neg : Bool) : heldF n true neg = sgn neg 9223372036854775808 := rfl

/-- The magnitude of a quotient, rounded; 2^63 if it is far too great. -/
def quoF (a b : Int) : Int := if a / 4294967296 < b then rnd (a * 4294967296 / b) (a * 4294967296 % b) b else 9223372036854775808

theorem quoF_bounds (a b : Int) (ha : 0 ≤ a) : 0 ≤ quoF a b ∧ (0 ≤ b → quoF a b < 18446744073709551616) := by
  unfold quoF
  by_cases h : a / 4294967296 < b
  · rw [if_pos h]
    have h1 : 0 ≤ a * 4294967296 / b := Int.ediv_nonneg (by omega) (by omega)
    have h2 : a * 4294967296 / b < 18446744073709551616 := by
      rw [Int.ediv_lt_iff_lt_mul (by omega)]; omega
    unfold rnd
    split <;> exact ⟨by omega, fun _ => by omega⟩
  · rw [if_neg h]; exact ⟨by omega, fun _ => by omega⟩

theorem sgn_quoF (neg : Bool) (a b : Int) (ha : 0 ≤ a) (hb : 0 < b) : sgn neg (quoF a b) = sgn neg (rndFull (a * 4294967296 / b) (a * 4294967296 % b) b) := by
  unfold quoF
  by_cases h : a / 4294967296 < b
  · rw [if_pos h, sgn_rnd]
  · rw [if_neg h, sgn_big _ _ (by omega)]
    have h1 : 9223372036854775808 ≤ a * 4294967296 / b := by
      rw [Int.le_ediv_iff_mul_le hb]; omega
    rw [sgn_big _ _ (by unfold rndFull; split <;> omega)]
theorem sgn_quoF_zero (neg : Bool) (a : Int) (ha : 0 ≤ a) : sgn neg (quoF a 0) = if neg then -9223372036854775808 else 9223372036854775807 := by
  unfold quoF
  rw [if_neg (by omega), sgn_big _ _ (by omega)]
theorem divF_eq (x y : Int) (hx : x ≠ 0) : sgn (decide (x < 0) != decide (y < 0)) (quoF (mag x) (mag y)) = divF x y := by
  have mx : 0 ≤ mag x := by unfold mag; split <;> omega
  unfold divF
  rw [if_neg hx]
  by_cases hy : y = 0
  · subst hy
    have e : mag 0 = 0 := rfl
    rw [if_pos rfl, e, sgn_quoF_zero _ _ mx]
    by_cases c : x < 0
    · simp [c]
    · simp [c]
  · rw [if_neg hy, sgn_quoF _ _ _ mx (by unfold mag; split <;> omega)]

end Go.Proofs.Ytapelgjnnccfoaa

/-
  Plain laws of saturating products and quotients: the order of the factors, the factors one and zero, monotony.
-/
namespace Go.Proofs.Ytapelgjnnccfoaa
set_option linter.unusedVariables false
set_option linter.unusedSimpArgs false

theorem mulF_comm (x y : Int) : mulF y x = mulF x y := by
  unfold mulF
  have e : (decide (y < 0) != decide (x < 0)) = (decide (x < 0) != decide (y < 0)) := by
    cases decide (y < 0) <;> cases decide (x < 0) <;> rfl
  rw [Int.mul_comm (mag y), e]
theorem mulF_zero (x : Int) : mulF x 0 = 0 := by
  have e : mag 0 = 0 := rfl
  unfold mulF
  rw [e, Int.mul_zero]
  have f : rndFull (0 / 4294967296) (0 % 4294967296) 4294967296 = 0 := by decide +kernel
  rw [f]
  unfold sgn
  rw [if_pos (by omega)]
  split <;> rfl
theorem mulF_one (x : Int) (h1 : -9223372036854775808 ≤ x) (h2 : x ≤ 9223372036854775807) : mulF x 4294967296 = x := by
  have e : mag 4294967296 = 4294967296 := rfl
  unfold mulF
  have a : mag x * 4294967296 / 4294967296 = mag x := by omega
  have b : mag x * 4294967296 % 4294967296 = 0 := by omega
  rw [e, a, b]
  have u : up (mag x) 0 4294967296 = false := by
    unfold up; simp
  have r : rndFull (mag x) 0 4294967296 = mag x := by unfold rndFull; rw [if_neg (by rw [u]; decide)]
  rw [r]
  have d : (decide (x < 0) != decide ((4294967296 : Int) < 0)) = decide (x < 0) := by
    simp
  rw [d]
  unfold sgn mag
  by_cases c : x < 0
  · simp only [c, if_true, decide_true]
    split <;> omega
  · simp only [c, if_false, decide_false]
    rw [if_pos (by omega)]
    rfl
theorem divF_one (x : Int) (h1 : -9223372036854775808 ≤ x) (h2 : x ≤ 9223372036854775807) : divF x 4294967296 = x := by
  unfold divF
  by_cases c : x = 0
  · rw [if_pos c, c]
  · rw [if_neg c, if_neg (by omega)]
    have e := mulF_one x h1 h2
    unfold mulF at e
    have f : mag 4294967296 = 4294967296 := rfl
    rw [f] at e ⊢
    exact e
theorem divF_self (x : Int) (h : x ≠ 0) : divF x x = 4294967296 := by
  unfold divF
  rw [if_neg h, if_neg h]
  have m : 0 < mag x := by unfold mag; split <;> omega
  have a : mag x * 4294967296 / mag x = 4294967296 := Int.mul_ediv_cancel_left _ (by omega)
  have b : mag x * 4294967296 % mag x = 0 := Int.mul_emod_right _ _
  rw [a, b]
  have u : up 4294967296 0 (mag x) = false := by
    unfold up; simp; omega
  have r : rndFull 4294967296 0 (mag x) = 4294967296 := by unfold rndFull; rw [if_neg (by rw [u]; decide)]
  rw [r]
  simp [sgn]

/-- A magnitude of a product, rounded. -/
theorem rnd_mono {P P' : Int} (h : P ≤ P') : rndFull (P / 4294967296) (P % 4294967296) 4294967296 ≤ rndFull (P' / 4294967296) (P' % 4294967296) 4294967296 := by
  unfold rndFull up
  simp only [Bool.or_eq_true, Bool.and_eq_true, decide_eq_true_eq]
  split <;> split <;> omega
theorem sgn_mono {m m' : Int} (h : m ≤ m') : sgn false m ≤ sgn false m' := by
  have e1 : sgn false m = if m < 9223372036854775808 then m else 9223372036854775807 := rfl
  have e2 : sgn false m' = if m' < 9223372036854775808 then m' else 9223372036854775807 := rfl
  rw [e1, e2]; split <;> split <;> omega
theorem sgn_anti {m m' : Int} (h : m ≤ m') : sgn true m' ≤ sgn true m := by
  have e1 : sgn true m = if m < 9223372036854775808 then -m else -9223372036854775808 := rfl
  have e2 : sgn true m' = if m' < 9223372036854775808 then -m' else -9223372036854775808 := rfl
  rw [e1, e2]; split <;> split <;> omega
theorem mulF_pos (x k : Int) (hx : 0 ≤ x) (hk : 0 ≤ k) : mulF x k = sgn false (rndFull (x * k / 4294967296) (x * k % 4294967296) 4294967296) := by
  unfold mulF
  rw [mag_pos x hx, mag_pos k hk, decide_eq_false (show ¬ x < 0 by omega), decide_eq_false (show ¬ k < 0 by omega)]
  rfl
theorem mulF_neg (x k : Int) (hx : x < 0) (hk : 0 ≤ k) : mulF x k = sgn true (rndFull (-x * k / 4294967296) (-x * k % 4294967296) 4294967296) := by
  unfold mulF
  rw [mag_neg x hx, mag_pos k hk, decide_eq_true hx, decide_eq_false (show ¬ k < 0 by omega)]
  rfl
theorem rnd_zero : rndFull ((0 : Int) / 4294967296) (0 % 4294967296) 4294967296 = 0 := by decide +kernel
theorem mulF_mono (x y k : Int) (h : x ≤ y) (hk : 0 ≤ k) : mulF x k ≤ mulF y k := by
  by_cases hx : 0 ≤ x
  · rw [mulF_pos x k hx hk, mulF_pos y k (by omega) hk]
    exact sgn_mono (rnd_mono (Int.mul_le_mul_of_nonneg_right h hk))
  · by_cases hy : 0 ≤ y
    · rw [mulF_neg x k (by omega) hk, mulF_pos y k hy hk]
      have h1 := rnd_mono (Int.mul_nonneg (show 0 ≤ -x by omega) hk)
      have h2 := rnd_mono (Int.mul_nonneg hy hk)
      rw [rnd_zero] at h1 h2
      have h3 := sgn_anti h1
      have h4 := sgn_mono h2
      have e1 : sgn true 0 = 0 := by decide +kernel
      have e2 : sgn false 0 = 0 := by decide +kernel
      rw [e1] at h3
      rw [e2] at h4
      omega
    · rw [mulF_neg x k (by omega) hk, mulF_neg y k (by omega) hk]
      exact sgn_anti (rnd_mono (Int.mul_le_mul_of_nonneg_right (by omega) hk))
theorem sat_mono {a b : Int} (h : a ≤ b) : sat a ≤ sat b := by
  unfold sat
  split <;> (try split) <;> (try split) <;> (try split) <;> omega
theorem held_int (a : Int) : heldF (mag a * 4294967296 % 18446744073709551616) (decide (4294967296 ≤ mag a)) (decide (a < 0)) = sat (a * 4294967296) := by
  have hm : mag a = if a < 0 then -a else a := rfl
  by_cases c : 4294967296 ≤ mag a
  · rw [decide_eq_true c, heldF_true, sgn_big _ _ (by omega)]
    by_cases ha : a < 0
    · rw [decide_eq_true ha, sat_lo _ (by rw [if_pos ha] at hm; omega)]; rfl
    · rw [decide_eq_false ha, sat_hi _ (by rw [if_neg ha] at hm; omega)]; rfl
  · rw [decide_eq_false c, heldF_false]
    by_cases ha : a < 0
    · rw [decide_eq_true ha]
      rw [if_pos ha] at hm
      rw [hm] at c ⊢
      have e1 : sgn true (-a * 4294967296 % 18446744073709551616) = if -a * 4294967296 % 18446744073709551616 < 9223372036854775808 then -(-a * 4294967296 % 18446744073709551616) else -9223372036854775808 := rfl
      rw [e1]; unfold sat
      split <;> split <;> (try split) <;> omega
    · rw [decide_eq_false ha]
      rw [if_neg ha] at hm
      rw [hm] at c ⊢
      have e1 : sgn false (a * 4294967296 % 18446744073709551616) = if a * 4294967296 % 18446744073709551616 < 9223372036854775808 then (a * 4294967296 % 18446744073709551616) else 9223372036854775807 := rfl
      rw [e1]; unfold sat
      split <;> split <;> (try split) <;> omega
theorem int_floor (a : Int) (h1 : -2147483648 ≤ a) (h2 : a < 2147483648) : sat (a * 4294967296) / 4294967296 = a := by
  rw [sat_in _ (by omega) (by omega)]; omega

end Go.Proofs.Ytapelgjnnccfoaa

/-
  Worlds that differ in one block alone; rows of which the first places are changed.
-/
namespace Go.Proofs.Ytapelgjnnccfoaa
open Go.RowKit
set_option linter.unusedVariables false
set_option linter.unusedSimpArgs false

/-- Block g alone may have changed. -/
structure Only (g : Nat) (w w' : World) : Prop where
  os : w'.os = w.os
  tape : w'.tape = w.tape
  output : w'.output = w.output
  size : w'.heap.size = w.heap.size
  block : ∀ k, k ≠ g → w'.heap[k]? = w.heap[k]?
theorem Only.refl (g : Nat) (w : World) : Only g w w := ⟨rfl, rfl, rfl, rfl, fun _ _ => rfl⟩
theorem Only.setCell {g : Nat} {w w' : World} (h : Only g w w') (j : Nat) (v : Value) : Only g w (w'.setCell ⟨g, j, none⟩ v) := by
  have hb : Below 0 w' (w'.setCell ⟨g, j, none⟩ v) := (Below.refl 0 w').setCell (Nat.zero_le _) v
  refine ⟨hb.os.trans h.os, hb.tape.trans h.tape, hb.output.trans h.output, ?_, fun k hk => (Below.heap_setCell w' ⟨g, j, none⟩ v k hk).trans (h.block k hk)⟩
  rw [← h.size]; simp
theorem Only.drew {g : Nat} {w w' : World} (h : Only g w w') : Only g w w'.drew := ⟨h.os, h.tape, h.output, h.size, h.block⟩
theorem Only.drewN {g : Nat} {w w' : World} (h : Only g w w') (n : Nat) : Only g w (w'.drewN n) := ⟨h.os, h.tape, h.output, h.size, h.block⟩
theorem Only.below {g B : Nat} {w0 w w' : World} (h : Only g w w') (hb : Below B w0 w) (hg : B ≤ g) : Below B w0 w' :=
  ⟨h.os.trans hb.os, h.tape.trans hb.tape, h.output.trans hb.output, by rw [h.size]; exact hb.size, fun k hk => (h.block k (by omega)).trans (hb.block k hk)⟩
theorem Only.gat {g B : Nat} {w w' : World} {s c : Value} (h : Only g w w') (hG : GAt w B s c) (hB : B ≠ g) : GAt w' B s c := (h.block B hB).trans hG
theorem Only.row {g B : Nat} {w w' : World} {e : TypeId} {k : Nat} {v : Value} {n : Nat} {xs : List Value} (hO : Only g w w') (h : w.ownsRow B e k v n xs) (hg : ∀ q, v.ownBlock = some q → q ≠ g) : w'.ownsRow B e k v n xs := by
  rcases h.2 with h2 | ⟨g', cap, cur, hv, hbg, hg', rest⟩
  · exact ⟨h.1, .inl h2⟩
  · exact ⟨h.1, .inr ⟨g', cap, cur, hv, hbg, (hO.block g' (hg g' (by rw [hv]; rfl))).trans hg', rest⟩⟩
theorem Only.ints {g : Nat} {w w' : World} {a : Option Addr} {n : Nat} {zs : List Int} (hO : Only g w w') (h : IntsAt w a n zs) (hg : ∀ q, a = some q → q.block ≠ g) : IntsAt w' a n zs := by
  obtain ⟨h1, h2, h3, h4⟩ := h
  refine ⟨h1, h2, h3, ?_⟩
  rcases h4 with h4 | ⟨b, off, ha, hc⟩
  · exact .inl h4
  · refine .inr ⟨b, off, ha, fun j hj => ?_⟩
    rw [World.cell?_of_block (w := w) (w' := w') (a := ⟨b, off + j, none⟩) (hO.block b (hg _ ha))]
    exact hc j hj

/-- The first k places of cs are those of xs. -/
def mixR (xs cs : List Int) (k : Nat) : List Int := xs.take k ++ cs.drop k
theorem mixR_zero (xs cs : List Int) : mixR xs cs 0 = cs := by simp [mixR]
theorem mixR_all {xs cs : List Int} {k : Nat} (h1 : xs.length = k) (h2 : cs.length = k) : mixR xs cs k = xs := by
  unfold mixR; rw [List.take_of_length_le (by omega), List.drop_of_length_le (by omega), List.append_nil]
theorem mixR_length {xs cs : List Int} {k : Nat} (h : xs.length = cs.length) (hk : k ≤ xs.length) : (mixR xs cs k).length = cs.length := by
  unfold mixR; rw [List.length_append, List.length_take, List.length_drop]; omega
theorem mixR_get {xs cs : List Int} {k : Nat} (h : xs.length = cs.length) (hk : k < cs.length) : (mixR xs cs k)[k]? = some (cs.getD k 0) := by
  unfold mixR
  rw [List.getElem?_append_right (by rw [List.length_take]; omega), List.length_take, show k - min k xs.length = 0 by omega, List.getElem?_drop]
  simp [List.getD, List.getElem?_eq_getElem hk]
theorem mixR_set {xs cs : List Int} {k : Nat} (h : xs.length = cs.length) (hk : k < cs.length) : (mixR xs cs k).set k (xs.getD k 0) = mixR xs cs (k + 1) := by
  unfold mixR
  rw [List.set_append_right _ _ (by rw [List.length_take]; omega), List.length_take, show k - min k xs.length = 0 by omega, List.drop_eq_getElem_cons hk, List.set_cons_zero, List.take_add_one, List.getElem?_eq_getElem (show k < xs.length by omega), List.append_assoc]
  simp [List.getD, List.getElem?_eq_getElem (show k < xs.length by omega)]
theorem mixR_fits {xs cs : List Int} (h : Fits xs) (h' : Fits cs) (k : Nat) : Fits (mixR xs cs k) := by
  intro n hn
  unfold mixR at hn
  rcases List.mem_append.1 hn with hn | hn
  · exact h n (List.mem_of_mem_take hn)
  · exact h' n (List.mem_of_mem_drop hn)

/-- Each cell multiplied. -/
def scaleL (cs : List Int) (y : Int) : List Int := cs.map fun x => mulF x y
theorem scaleL_length (cs : List Int) (y : Int) : (scaleL cs y).length = cs.length := by simp [scaleL]
theorem scaleL_get {cs : List Int} {y : Int} {k : Nat} (h : k < cs.length) : (scaleL cs y).getD k 0 = mulF (cs.getD k 0) y := by
  simp [scaleL, List.getD, List.getElem?_eq_getElem h]
theorem scaleL_fits (cs : List Int) (y : Int) : Fits (scaleL cs y) := by
  intro n hn
  obtain ⟨x, -, rfl⟩ := List.mem_map.1 hn
  exact mulF_bounds x y
/-- The sums of the cells at the same places. -/
def addL (cs ds : List Int) : List Int := List.zipWith (fun x y => sat (x + y)) cs ds
theorem addL_length {cs ds : List Int} (h : cs.length = ds.length) : (addL cs ds).length = cs.length := by simp [addL]; omega
theorem addL_get {cs ds : List Int} {k : Nat} (h : cs.length = ds.length) (hk : k < cs.length) : (addL cs ds).getD k 0 = sat (cs.getD k 0 + ds.getD k 0) := by
  simp [addL, List.getD, List.getElem?_zipWith, List.getElem?_eq_getElem hk, List.getElem?_eq_getElem (show k < ds.length by omega)]
theorem addL_fits (cs ds : List Int) : Fits (addL cs ds) := by
  unfold addL
  induction cs generalizing ds with
  | nil => intro n hn; simp at hn
  | cons x cs ih =>
    cases ds with
    | nil => intro n hn; simp at hn
    | cons y ds =>
      intro n hn
      rw [List.zipWith_cons_cons, List.mem_cons] at hn
      rcases hn with rfl | hn
      · exact sat_bounds _
      · exact ih ds n hn
end Go.Proofs.Ytapelgjnnccfoaa

/-
  Regions that draw their order: operations that a guard leaves out, one after another.
-/
namespace Go.Proofs.Ytapelgjnnccfoaa
open Go.RowKit
set_option linter.unusedVariables false
set_option linter.unusedSimpArgs false
section
variable {P : Program} {md : Region.Mode} {ops : Array Oper} {Q : Exit → Act → World → Prop} {S : World → Prop}
/-- An operation that its guard leaves out comes up first. -/
theorem held_skip (i : Nat) {oi : Oper} {fuel : Nat} {listed : Array Bool} {a : Act} {w : World} (hi : ops.toList[i]? = some oi)
    (hs : Region.noSelect ops = true) (hf : Region.free md ops listed i = true) (hr : (Region.ready md ops listed).contains i = true)
    (hQ : ∀ c a w, Q (.panic c) (a.put oi.dst undef) w → Q (.panic c) a w) (hw : Region.wanted oi (yielded ops a.tmps) = false) (hS : S w)
    (h : wpAnyH P md ops Q S fuel (listed.setIfInBounds i true) (a.put oi.dst undef) w) : wpAnyH P md ops Q S (fuel + 1) listed a w :=
  wpAnyH_take (by rw [← Array.getElem?_toList]; exact hi) hs hf hr hQ (Or.inr ⟨hw, rfl⟩) hS h
/-- An operation that yields in every world comes up first. -/
theorem held_take (i : Nat) (v : Value) {oi : Oper} {fuel : Nat} {listed : Array Bool} {a : Act} {w : World} (hi : ops.toList[i]? = some oi)
    (hs : Region.noSelect ops = true) (hf : Region.free md ops listed i = true) (hr : (Region.ready md ops listed).contains i = true)
    (hQ : ∀ c a w, Q (.panic c) (a.put oi.dst v) w → Q (.panic c) a w) (hw : Region.wanted oi (yielded ops a.tmps) = true) (hv : ∀ w, S w → (execOp a.eval oi).run P w = .ok (.value v) w) (hS : S w)
    (h : wpAnyH P md ops Q S fuel (listed.setIfInBounds i true) (a.put oi.dst v) w) : wpAnyH P md ops Q S (fuel + 1) listed a w :=
  wpAnyH_take (by rw [← Array.getElem?_toList]; exact hi) hs hf hr hQ (Or.inl ⟨hw, hv⟩) hS h
/-- The one operation that may come up, carried out. -/
theorem held_call (i : Nat) {o : Oper} {fuel : Nat} {listed : Array Bool} {a : Act} {w : World} (hr : Region.ready md ops listed = [i]) (ho : ops.toList[i]? = some o) (hw : Region.wanted o (yielded ops a.tmps) = true)
    (h : ∀ K' : Act → World → Prop, Shut (∀ a w, S w → (S w → wpAnyH P md ops Q S fuel (listed.setIfInBounds i true) a w) → K' a w) → Oper.wp P o a w K' Q) : wpAnyH P md ops Q S (fuel + 1) listed a w :=
  wpAnyH_ready hr (by simp) (AllReadyH.cons (by rw [← Array.getElem?_toList]; exact ho) (fun K hK => by rw [if_pos hw]; exact h K hK) AllReadyH.nil)
/-- The one operation that may come up is left out by its guard (a call: 'held_skip' does not serve it). -/
theorem held_left (i : Nat) {o : Oper} {fuel : Nat} {listed : Array Bool} {a : Act} {w : World} (hr : Region.ready md ops listed = [i]) (ho : ops.toList[i]? = some o) (hw : Region.wanted o (yielded ops a.tmps) = false) (hS : S w)
    (h : wpAnyH P md ops Q S fuel (listed.setIfInBounds i true) (a.put o.dst undef) w) : wpAnyH P md ops Q S (fuel + 1) listed a w :=
  wpAnyH_ready hr (by simp) (AllReadyH.cons (by rw [← Array.getElem?_toList]; exact ho) (fun K hK => by rw [hw, if_neg (by decide)]; exact hK.out _ _ hS (fun _ => h)) AllReadyH.nil)
/-- Two operations may come up. -/
theorem held_two (i j : Nat) {o1 o2 : Oper} {fuel : Nat} {listed : Array Bool} {a : Act} {w : World} (hr : Region.ready md ops listed = [i, j]) (h1 : ops.toList[i]? = some o1) (h2 : ops.toList[j]? = some o2)
    (hw1 : Region.wanted o1 (yielded ops a.tmps) = true) (hw2 : Region.wanted o2 (yielded ops a.tmps) = true)
    (H1 : ∀ K' : Act → World → Prop, Shut (∀ a w, S w → (S w → wpAnyH P md ops Q S fuel (listed.setIfInBounds i true) a w) → K' a w) → Oper.wp P o1 a w K' Q)
    (H2 : ∀ K' : Act → World → Prop, Shut (∀ a w, S w → (S w → wpAnyH P md ops Q S fuel (listed.setIfInBounds j true) a w) → K' a w) → Oper.wp P o2 a w K' Q) : wpAnyH P md ops Q S (fuel + 1) listed a w :=
  wpAnyH_ready hr (by simp) (AllReadyH.cons (by rw [← Array.getElem?_toList]; exact h1) (fun K hK => by rw [if_pos hw1]; exact H1 K hK) (AllReadyH.cons (by rw [← Array.getElem?_toList]; exact h2) (fun K hK => by rw [if_pos hw2]; exact H2 K hK) AllReadyH.nil))
end
end Go.Proofs.Ytapelgjnnccfoaa

/-
  Numbers appended one by one to a new row of 64-bit integers.
-/
namespace Go.Proofs.Ytapelgjnnccfoaa
open Go.RowKit
set_option linter.unusedVariables false
set_option linter.unusedSimpArgs false

theorem i64Info : (Try.prog.info? 2).map (fun i => (i.zero, i.size, i.bytes)) = some (some (.int .i64 0), 1, 8) := by kernel_rfl

/-- One number more behind a new row of numbers. -/
theorem snoc_int (L : List Int) (x : Int) : (L ++ [x]).map (Value.int .i64) = L.map (Value.int .i64) ++ [Value.int .i64 x] := by simp
theorem box_cell (w : World) (x : Int) (t : TypeId) : ∀ j u, [Value.int .i64 x][j]? = some u → (w.alloc (.cells #[.int .i64 x] t)).cell? ((⟨w.heap.size, 0, none⟩ : Addr).add j) = some u := by
  intro j u hj
  match j, hj with
  | 0, hj =>
    simp at hj; subst hj
    rw [Addr.add_lit, World.cell?_alloc_at _ _ _ _ rfl]; rfl

theorem take_more {cs : List Int} (d c : Nat) (h : d + c < cs.length) : (cs.drop d).take (c + 1) = (cs.drop d).take c ++ [cs.getD (d + c) 0] := by
  rw [List.take_add_one, List.getElem?_drop]
  simp [List.getD, List.getElem?_eq_getElem h]

/-- What is to be appended lies in a new block. -/
structure Snoc (w0 wr : World) (x : Int) (L0 : List Value) (t : Value) (len : Nat) : Prop where
  row : (wr.alloc (.cells #[.int .i64 x] 2)).ownsRow w0.heap.size 2 1 t len L0
  new : ∀ j u, [Value.int .i64 x][j]? = some u → (wr.alloc (.cells #[.int .i64 x] 2)).cell? ((⟨wr.heap.size, 0, none⟩ : Addr).add j) = some u
  one : ∀ u ∈ [Value.int .i64 x], u.oneCell' = true
  room : len + 1 ≤ maxLen
  bytes : (len + 1) * 8 ≤ 140737488355328
  size : w0.heap.size ≤ (wr.alloc (.cells #[.int .i64 x] 2)).heap.size
theorem snoc_of {w0 wr : World} {L0 : List Value} {t : Value} {len : Nat} (x : Int) (h : wr.ownsRow w0.heap.size 2 1 t len L0) (hb : Below w0.heap.size w0 wr) (hl : len ≤ 1000) : Snoc w0 wr x L0 t len :=
  ⟨h.alloc _, box_cell wr x _, (by intro u hu; simp at hu; subst hu; rfl), by unfold maxLen; omega, by omega, by have := hb.size; simp; omega⟩
theorem snoc_below {w0 wr w5 : World} {L0 : List Value} {t : Value} {len : Nat} {x : Int} (h : wr.ownsRow w0.heap.size 2 1 t len L0) (hb : Below w0.heap.size w0 wr) (hg : (wr.alloc (.cells #[.int .i64 x] 2)).grownBy w5 t.ownBlock) : Below w0.heap.size w0 w5 :=
  (hb.alloc hb.size (.cells #[.int .i64 x] 2)).grown hg (by have := hb.size; simp; omega) (fun q' hq' => (h.lt q' hq').1)

end Go.Proofs.Ytapelgjnnccfoaa

/-
  The builtin append of integers as one operation.
-/
namespace Go.Proofs.Ytapelgjnnccfoaa
open Go.RowKit
set_option linter.unusedVariables false
set_option linter.unusedSimpArgs false

/-- The builtin append of integers to a row of one's own. -/
theorem wp_append_ints {w : World} {o : Oper} {a : Act} {K : Act → World → Prop} {Q : Exit → Act → World → Prop} (s x : Operand) (t e : TypeId)
    (ho : o.op = .call { callee := .builtin .append, args := #[s, x], argTypes := #[t, t] }) (hu : Try.prog.underlying t = some (.slice e)) (hinfo : (Try.prog.info? e).map (fun i => (i.zero, i.size, i.bytes)) = some (some (.int .i64 0), 1, 8))
    (B : Nat) (v : Value) (n : Nat) (xs : List Int) (hs : a.eval s = v) (hown : w.ownsRow B e 1 v n (xs.map (Value.int .i64)))
    (av : Option Addr) (m c : Nat) (zs : List Int) (hx : a.eval x = .slice av m c) (hG : IntsAt w av m zs) (hn : av = none → m = 0 ∧ c = 0) (hb : n + m ≤ 1000000) (hbase : B ≤ w.heap.size)
    (h : ∀ v' w', w'.ownsRow B e 1 v' (n + m) ((xs ++ zs).map (Value.int .i64)) → w.grownBy w' v.ownBlock → (v'.ownBlock = v.ownBlock ∨ v'.ownBlock = some w.heap.size) → K (a.put o.dst v') w') : o.wp Try.prog a w K Q := by
  obtain ⟨i0, hi, hz0, hz1, hz2⟩ := info_parts hinfo
  cases av with
  | none =>
    obtain ⟨rfl, rfl⟩ := hn rfl
    have e1 : zs = [] := List.length_eq_zero_iff.1 hG.1
    subst e1
    have hrun := run_append_owned_none (P := Try.prog) (w := w) B t o.type e i0 1 hu hi v n (xs.map (Value.int .i64)) hown
    unfold Oper.wp
    simp [execOp, ho, resolve, invoke, builtin, hs, hx, hrun, Result.andThen]
    exact h v w (by rw [List.append_nil]; exact hown) ⟨rfl, rfl, rfl, Nat.le_refl _, fun _ _ _ => rfl⟩ (.inl rfl)
  | some ad =>
    obtain ⟨v', w', hr, h2, h3, -, h5⟩ := run_append_own_at (P := Try.prog) w B t o.type e i0 (.int .i64 0) 1 8 hu hi hz0 hz1 hz2 rfl (by decide) v n (xs.map (Value.int .i64)) hown ad m c (zs.map (Value.int .i64)) (by rw [List.length_map, hG.1, Nat.mul_one]) (by
      intro j u hj
      rw [List.getElem?_map] at hj
      obtain ⟨q, hq, rfl⟩ := Option.map_eq_some_iff.1 hj
      have hjl : j < zs.length := (List.getElem?_eq_some_iff.1 hq).1
      rcases hG.2.2.2 with h4 | ⟨b, off, ha, hc⟩
      · have := hG.1; omega
      · cases ha
        rw [Go.WideShapes.add_plain, hc j (by rw [← hG.1]; exact hjl)]
        simp [List.getD, hq]) (by intro u hu; obtain ⟨q, _, rfl⟩ := List.mem_map.1 hu; rfl) (by unfold maxLen; omega) (by omega) hbase
    unfold Oper.wp execOp
    simp only [ho, resolve, invoke, builtin, Sem.run_bind, Sem.run_pure, Result.andThen_ok, List.map_toArray, List.map_cons, List.map_nil, hs, hx, hr]
    exact h v' w' (by rw [List.map_append]; exact h2) h3 h5

end Go.Proofs.Ytapelgjnnccfoaa

/-
  Plain mathematics of sums and dot products of lists of saturating numbers.
-/
namespace Go.Proofs.Ytapelgjnnccfoaa
set_option linter.unusedVariables false
set_option linter.unusedSimpArgs false

/-- The sum of the elements, saturated after each addition. -/
def sumF (l : List Int) : Int := l.foldl (fun s x => sat (s + x)) 0
theorem sumF_step (l : List Int) (k : Nat) (hk : k < l.length) : sumF (l.take (k + 1)) = sat (sumF (l.take k) + l.getD k 0) := by
  unfold sumF
  rw [List.take_add_one, List.foldl_append]
  simp [List.getD, List.getElem?_eq_getElem hk]
theorem sumF_bounds (l : List Int) : -9223372036854775808 ≤ sumF l ∧ sumF l ≤ 9223372036854775807 := by
  unfold sumF
  cases h : l.reverse with
  | nil =>
    have : l = [] := by simpa using h
    subst this; simp
  | cons a r =>
    have : l = r.reverse ++ [a] := by rw [← List.reverse_reverse l, h]; simp
    subst this
    rw [List.foldl_append]
    exact sat_bounds _

/-- The sum of the products of the elements at the same index. -/
def dotF (a b : List Int) : Int := (a.zip b).foldl (fun s x => sat (s + mulF x.1 x.2)) 0
theorem dotF_step (a b : List Int) (k : Nat) (ha : k < a.length) (hb : k < b.length) : dotF (a.take (k + 1)) (b.take (k + 1)) = sat (dotF (a.take k) (b.take k) + mulF (a.getD k 0) (b.getD k 0)) := by
  unfold dotF
  have e : (a.take (k + 1)).zip (b.take (k + 1)) = (a.take k).zip (b.take k) ++ [(a.getD k 0, b.getD k 0)] := by
    rw [List.take_add_one, List.take_add_one, List.getElem?_eq_getElem ha, List.getElem?_eq_getElem hb, List.zip_append (by simp; omega)]
    simp [List.getD, List.getElem?_eq_getElem ha, List.getElem?_eq_getElem hb]
  rw [e, List.foldl_append]
  rfl
theorem dotF_bounds (a b : List Int) : -9223372036854775808 ≤ dotF a b ∧ dotF a b ≤ 9223372036854775807 := by
  unfold dotF
  generalize a.zip b = l
  cases h : l.reverse with
  | nil =>
    have : l = [] := by simpa using h
    subst this; simp
  | cons a r =>
    have : l = r.reverse ++ [a] := by rw [← List.reverse_reverse l, h]; simp
    subst this
    rw [List.foldl_append]
    exact sat_bounds _
theorem dotF_full (a b : List Int) (k : Nat) (h : k = min a.length b.length) : dotF (a.take k) (b.take k) = dotF a b := by
  unfold dotF
  subst h
  congr 1
  induction a generalizing b with
  | nil => simp
  | cons x a ih => cases b with
    | nil => simp
    | cons y b => simp [Nat.succ_min_succ, ih b]

end Go.Proofs.Ytapelgjnnccfoaa

/-
  Layer 7 in mathematics: numbers added to cells one after another; the products of a convolution in their order; windows.
-/
namespace Go.Proofs.Ytapelgjnnccfoaa
set_option linter.unusedVariables false
set_option linter.unusedSimpArgs false

/-- A number is added to the cell at a place. -/
def addAt (out : List Int) (k : Nat) (v : Int) : List Int := out.set k (sat (out.getD k 0 + v))
theorem addAt_length (out : List Int) (k : Nat) (v : Int) : (addAt out k v).length = out.length := by simp [addAt]
theorem addAt_same {out : List Int} {k : Nat} (v : Int) (h : k < out.length) : (addAt out k v).getD k 0 = sat (out.getD k 0 + v) := by
  simp [addAt, List.getD, h]
theorem addAt_other {out : List Int} {k j : Nat} (v : Int) (h : k ≠ j) : (addAt out k v).getD j 0 = out.getD j 0 := by
  simp [addAt, List.getD, List.getElem?_set_ne h]
/-- Numbers are added, one after another, each to the cell at its place, from noughts. -/
def runL (N : Nat) (ts : List (Nat × Int)) : List Int := ts.foldl (fun out t => addAt out t.1 t.2) (List.replicate N 0)
theorem runL_nil (N : Nat) : runL N [] = List.replicate N 0 := rfl
theorem runL_snoc (N : Nat) (ts : List (Nat × Int)) (t : Nat × Int) : runL N (ts ++ [t]) = addAt (runL N ts) t.1 t.2 := by simp [runL, List.foldl_append]
theorem runL_length (N : Nat) (ts : List (Nat × Int)) : (runL N ts).length = N := by
  unfold runL
  suffices h : ∀ (l : List Int), (ts.foldl (fun out t => addAt out t.1 t.2) l).length = l.length by rw [h]; simp
  induction ts with
  | nil => intro l; rfl
  | cons t r ih => intro l; rw [List.foldl_cons, ih, addAt_length]
theorem addAt_fits {out : List Int} (h : Fits out) (k : Nat) (v : Int) : Fits (addAt out k v) := by
  intro n hn
  unfold addAt at hn
  rcases List.mem_or_eq_of_mem_set hn with h' | rfl
  · exact h n h'
  · exact sat_bounds _
theorem runL_fits (N : Nat) (ts : List (Nat × Int)) : Fits (runL N ts) := by
  unfold runL
  suffices h : ∀ (l : List Int), Fits l → Fits (ts.foldl (fun out t => addAt out t.1 t.2) l) by
    refine h _ ?_
    intro n hn
    rw [List.mem_replicate] at hn
    omega
  induction ts with
  | nil => intro l h; exact h
  | cons t r ih => intro l h; rw [List.foldl_cons]; exact ih _ (addAt_fits h _ _)
/-- What was added to one place, in its order. -/
def atL (k : Nat) (ts : List (Nat × Int)) : List Int := (ts.filter fun t => t.1 == k).map fun t => t.2
theorem sumF_snoc (l : List Int) (x : Int) : sumF (l ++ [x]) = sat (sumF l + x) := by simp [sumF, List.foldl_append]
theorem runL_get {N k : Nat} (hk : k < N) (ts : List (Nat × Int)) : (runL N ts).getD k 0 = sumF (atL k ts) := by
  suffices h : ∀ (n : Nat) (l : List (Nat × Int)), l.length = n → (runL N l).getD k 0 = sumF (atL k l) from h _ ts rfl
  intro n
  induction n with
  | zero =>
    intro l hl
    obtain rfl := List.length_eq_zero_iff.1 hl
    simp [runL, atL, sumF, List.getD, hk]
  | succ n ih =>
    intro l hl
    obtain ⟨r, t, rfl⟩ : ∃ r t, l = r ++ [t] := by
      have hne : l ≠ [] := by intro e; subst e; simp at hl
      exact ⟨l.dropLast, l.getLast hne, (List.dropLast_concat_getLast hne).symm⟩
    have hr : r.length = n := by simp at hl; exact hl
    rw [runL_snoc]
    by_cases c : t.1 = k
    · subst c
      rw [addAt_same _ (by rw [runL_length]; exact hk), ih r hr]
      have : atL t.1 (r ++ [t]) = atL t.1 r ++ [t.2] := by simp [atL, List.filter_append]
      rw [this, sumF_snoc]
    · rw [addAt_other _ c, ih r hr]
      have : atL k (r ++ [t]) = atL k r := by simp [atL, List.filter_append, c]
      rw [this]

/-- A list put together of parts, one for each number below k. -/
def partsL {α : Type} (f : Nat → List α) (k : Nat) : List α := (List.range k).flatMap f
theorem partsL_zero {α : Type} (f : Nat → List α) : partsL f 0 = [] := by simp [partsL]
theorem partsL_succ {α : Type} (f : Nat → List α) (k : Nat) : partsL f (k + 1) = partsL f k ++ f k := by simp [partsL, List.range_succ, List.flatMap_append]
theorem partsL_length {α : Type} {f : Nat → List α} {n : Nat} (h : ∀ k, (f k).length = n) (k : Nat) : (partsL f k).length = k * n := by
  induction k with
  | zero => simp [partsL_zero]
  | succ k ih => rw [partsL_succ, List.length_append, ih, h, Nat.succ_mul]
theorem partsL_mem {α : Type} {f : Nat → List α} {k : Nat} {x : α} : x ∈ partsL f k ↔ ∃ j, j < k ∧ x ∈ f j := by
  simp [partsL, List.mem_flatMap]

/-- What comes together (numbers of the reference's plan), with the numbers of windows down and right. -/
structure PlanN where
  O : Nat
  C : Nat
  K : Nat
  L : Nat
  H : Nat
  W : Nat
  dn : Nat
  rt : Nat
  m : Nat
  n : Nat
/-- The three places of a product: in the answer, in the kernel, in what comes in. -/
def PlanN.a (p : PlanN) (o i j : Nat) : Nat := (o * p.m + i) * p.n + j
def PlanN.b (p : PlanN) (o c t u : Nat) : Nat := ((o * p.C + c) * p.K + t) * p.L + u
def PlanN.d (p : PlanN) (i j c t u : Nat) : Nat := (c * p.H + i * p.dn + t) * p.W + j * p.rt + u
abbrev Tri := Nat × Nat × Nat
def PlanN.lU (p : PlanN) (o i j c t k : Nat) : List Tri := partsL (fun u => [(p.a o i j, p.b o c t u, p.d i j c t u)]) k
def PlanN.lT (p : PlanN) (o i j c k : Nat) : List Tri := partsL (fun t => p.lU o i j c t p.L) k
def PlanN.lC (p : PlanN) (o i j k : Nat) : List Tri := partsL (fun c => p.lT o i j c p.K) k
def PlanN.lJ (p : PlanN) (o i k : Nat) : List Tri := partsL (fun j => p.lC o i j p.C) k
def PlanN.lI (p : PlanN) (o k : Nat) : List Tri := partsL (fun i => p.lJ o i p.n) k
def PlanN.lO (p : PlanN) (k : Nat) : List Tri := partsL (fun o => p.lI o p.m) k
/-- All products in their order. -/
def PlanN.all (p : PlanN) : List Tri := p.lO p.O
theorem PlanN.lU_succ (p : PlanN) (o i j c t k : Nat) : p.lU o i j c t (k + 1) = p.lU o i j c t k ++ [(p.a o i j, p.b o c t k, p.d i j c t k)] := partsL_succ _ _
theorem PlanN.lT_succ (p : PlanN) (o i j c k : Nat) : p.lT o i j c (k + 1) = p.lT o i j c k ++ p.lU o i j c k p.L := partsL_succ _ _
theorem PlanN.lC_succ (p : PlanN) (o i j k : Nat) : p.lC o i j (k + 1) = p.lC o i j k ++ p.lT o i j k p.K := partsL_succ _ _
theorem PlanN.lJ_succ (p : PlanN) (o i k : Nat) : p.lJ o i (k + 1) = p.lJ o i k ++ p.lC o i k p.C := partsL_succ _ _
theorem PlanN.lI_succ (p : PlanN) (o k : Nat) : p.lI o (k + 1) = p.lI o k ++ p.lJ o k p.n := partsL_succ _ _
theorem PlanN.lO_succ (p : PlanN) (k : Nat) : p.lO (k + 1) = p.lO k ++ p.lI k p.m := partsL_succ _ _
theorem PlanN.lU_zero (p : PlanN) (o i j c t : Nat) : p.lU o i j c t 0 = [] := partsL_zero _
theorem PlanN.lT_zero (p : PlanN) (o i j c : Nat) : p.lT o i j c 0 = [] := partsL_zero _
theorem PlanN.lC_zero (p : PlanN) (o i j : Nat) : p.lC o i j 0 = [] := partsL_zero _
theorem PlanN.lJ_zero (p : PlanN) (o i : Nat) : p.lJ o i 0 = [] := partsL_zero _
theorem PlanN.lI_zero (p : PlanN) (o : Nat) : p.lI o 0 = [] := partsL_zero _
theorem PlanN.lO_zero (p : PlanN) : p.lO 0 = [] := partsL_zero _
/-- How many products there are. -/
theorem PlanN.all_length (p : PlanN) : p.all.length = p.O * (p.m * (p.n * (p.C * (p.K * p.L)))) := by
  unfold PlanN.all PlanN.lO
  rw [partsL_length (n := p.m * (p.n * (p.C * (p.K * p.L))))]
  intro o
  unfold PlanN.lI
  rw [partsL_length (n := p.n * (p.C * (p.K * p.L)))]
  intro i
  unfold PlanN.lJ
  rw [partsL_length (n := p.C * (p.K * p.L))]
  intro j
  unfold PlanN.lC
  rw [partsL_length (n := p.K * p.L)]
  intro c
  unfold PlanN.lT
  rw [partsL_length (n := p.L)]
  intro t
  unfold PlanN.lU
  rw [partsL_length (n := 1)]
  · omega
  · intro u; rfl

/-- A number in a grid of two sides. -/
theorem two_in {m n i j : Nat} (hi : i < m) (hj : j < n) : i * n + j < m * n := by
  have : (i + 1) * n ≤ m * n := Nat.mul_le_mul_right n hi
  rw [Nat.add_mul, Nat.one_mul] at this
  omega
theorem PlanN.a_in (p : PlanN) {o i j : Nat} (ho : o < p.O) (hi : i < p.m) (hj : j < p.n) : p.a o i j < p.O * p.m * p.n := two_in (two_in ho hi) hj
theorem PlanN.b_in (p : PlanN) {o c t u : Nat} (ho : o < p.O) (hc : c < p.C) (ht : t < p.K) (hu : u < p.L) : p.b o c t u < p.O * p.C * p.K * p.L := two_in (two_in (two_in ho hc) ht) hu
theorem PlanN.d_in (p : PlanN) {i j c t u : Nat} (hc : c < p.C) (hy : i * p.dn + t < p.H) (hx : j * p.rt + u < p.W) : p.d i j c t u < p.C * p.H * p.W := by
  have h1 := two_in hc hy
  have h2 := two_in h1 hx
  unfold PlanN.d
  rw [← Nat.add_assoc, ← Nat.add_assoc] at h2
  exact h2

/-- In how many places a window fits; 0: none. -/
def winC (side width step : Nat) : Nat := if 1 ≤ width ∧ 1 ≤ step ∧ width ≤ side then (side - width) / step + 1 else 0
theorem winC_fits {side width step k : Nat} (hs : 1 ≤ step) (hw : 1 ≤ width) (h : width ≤ side) : k < winC side width step ↔ k * step + width ≤ side := by
  unfold winC
  rw [if_pos ⟨hw, hs, h⟩, Nat.lt_succ_iff, Nat.le_div_iff_mul_le (by omega)]
  omega
theorem winC_none {side width step : Nat} (h : side < width) : winC side width step = 0 := by
  unfold winC
  rw [if_neg (by omega)]
theorem winC_pos {side width step : Nat} (hs : 1 ≤ step) (hw : 1 ≤ width) (h : width ≤ side) : 1 ≤ winC side width step := by
  unfold winC
  rw [if_pos ⟨hw, hs, h⟩]
  exact Nat.le_add_left 1 _
theorem winC_le {side width step : Nat} (hs : 1 ≤ step) (hw : 1 ≤ width) (h : width ≤ side) : winC side width step ≤ side := by
  have h1 := (winC_fits (k := winC side width step - 1) hs hw h).1 (by have := winC_pos hs hw h; omega)
  have h2 : (winC side width step - 1) * 1 ≤ (winC side width step - 1) * step := Nat.mul_le_mul_left _ hs
  omega
/-- The reference's count of windows: it stands at k places, at · = k steps. -/
theorem winC_end {side width step k : Nat} (hs : 1 ≤ step) (hw : 1 ≤ width) (h : width ≤ side) (h1 : ¬ k * step + width ≤ side) (h2 : ∀ j, j < k → j * step + width ≤ side) : k = winC side width step := by
  have a := mt (winC_fits (k := k) hs hw h).1 h1
  by_cases c : k = 0
  · subst c; have := winC_pos hs hw h; omega
  · have b := (winC_fits (k := k - 1) hs hw h).2 (h2 (k - 1) (by omega))
    omega

/-- Members of the lists, level by level. -/
def PlanN.tri (p : PlanN) (o i j c t u : Nat) : Tri := (p.a o i j, p.b o c t u, p.d i j c t u)
theorem PlanN.lU_mem {p : PlanN} {o i j c t k : Nat} {x : Tri} (h : x ∈ p.lU o i j c t k) : ∃ u, u < k ∧ x = p.tri o i j c t u := by
  obtain ⟨u, hu, hx⟩ := partsL_mem.1 h
  exact ⟨u, hu, List.mem_singleton.1 hx⟩
theorem PlanN.lT_mem {p : PlanN} {o i j c k : Nat} {x : Tri} (h : x ∈ p.lT o i j c k) : ∃ t u, t < k ∧ u < p.L ∧ x = p.tri o i j c t u := by
  obtain ⟨t, ht, hx⟩ := partsL_mem.1 h
  obtain ⟨u, hu, e⟩ := PlanN.lU_mem hx
  exact ⟨t, u, ht, hu, e⟩
theorem PlanN.lC_mem {p : PlanN} {o i j k : Nat} {x : Tri} (h : x ∈ p.lC o i j k) : ∃ c t u, c < k ∧ t < p.K ∧ u < p.L ∧ x = p.tri o i j c t u := by
  obtain ⟨c, hc, hx⟩ := partsL_mem.1 h
  obtain ⟨t, u, ht, hu, e⟩ := PlanN.lT_mem hx
  exact ⟨c, t, u, hc, ht, hu, e⟩
theorem PlanN.lJ_mem {p : PlanN} {o i k : Nat} {x : Tri} (h : x ∈ p.lJ o i k) : ∃ j c t u, j < k ∧ c < p.C ∧ t < p.K ∧ u < p.L ∧ x = p.tri o i j c t u := by
  obtain ⟨j, hj, hx⟩ := partsL_mem.1 h
  obtain ⟨c, t, u, hc, ht, hu, e⟩ := PlanN.lC_mem hx
  exact ⟨j, c, t, u, hj, hc, ht, hu, e⟩
theorem PlanN.lI_mem {p : PlanN} {o k : Nat} {x : Tri} (h : x ∈ p.lI o k) : ∃ i j c t u, i < k ∧ j < p.n ∧ c < p.C ∧ t < p.K ∧ u < p.L ∧ x = p.tri o i j c t u := by
  obtain ⟨i, hi, hx⟩ := partsL_mem.1 h
  obtain ⟨j, c, t, u, hj, hc, ht, hu, e⟩ := PlanN.lJ_mem hx
  exact ⟨i, j, c, t, u, hi, hj, hc, ht, hu, e⟩
theorem PlanN.lO_mem {p : PlanN} {k : Nat} {x : Tri} (h : x ∈ p.lO k) : ∃ o i j c t u, o < k ∧ i < p.m ∧ j < p.n ∧ c < p.C ∧ t < p.K ∧ u < p.L ∧ x = p.tri o i j c t u := by
  obtain ⟨o, ho, hx⟩ := partsL_mem.1 h
  obtain ⟨i, j, c, t, u, hi, hj, hc, ht, hu, e⟩ := PlanN.lI_mem hx
  exact ⟨o, i, j, c, t, u, ho, hi, hj, hc, ht, hu, e⟩
/-- Every window lies within what comes in. -/
structure PlanN.Ok (p : PlanN) : Prop where
  down : ∀ i, i < p.m → i * p.dn + p.K ≤ p.H
  right : ∀ j, j < p.n → j * p.rt + p.L ≤ p.W
theorem PlanN.all_in {p : PlanN} (h : p.Ok) {x : Tri} (hx : x ∈ p.all) : x.1 < p.O * p.m * p.n ∧ x.2.1 < p.O * p.C * p.K * p.L ∧ x.2.2 < p.C * p.H * p.W := by
  obtain ⟨o, i, j, c, t, u, ho, hi, hj, hc, ht, hu, rfl⟩ := PlanN.lO_mem hx
  have := h.down i hi
  have := h.right j hj
  exact ⟨p.a_in ho hi hj, p.b_in ho hc ht hu, p.d_in hc (by omega) (by omega)⟩

theorem lex_lt {n i i' j : Nat} (j' : Nat) (hi : i < i') (hj : j < n) : i * n + j < i' * n + j' := by
  have : (i + 1) * n ≤ i' * n := Nat.mul_le_mul_right n hi
  rw [Nat.add_mul, Nat.one_mul] at this
  omega
theorem lex_same {n i j j' : Nat} (hj : j < j') : i * n + j < i * n + j' := by omega
/-- A product that comes later: another cell of the answer, or the same with greater places. -/
def later (x y : Tri) : Prop := x.1 < y.1 ∨ (x.1 = y.1 ∧ x.2.1 < y.2.1 ∧ x.2.2 < y.2.2)
theorem partsL_pairwise {α : Type} {R : α → α → Prop} {f : Nat → List α} {k : Nat} (h1 : ∀ j, j < k → (f j).Pairwise R) (h2 : ∀ i j, i < j → j < k → ∀ x ∈ f i, ∀ y ∈ f j, R x y) : (partsL f k).Pairwise R := by
  induction k with
  | zero => rw [partsL_zero]; exact List.Pairwise.nil
  | succ k ih =>
    rw [partsL_succ, List.pairwise_append]
    refine ⟨ih (fun j hj => h1 j (by omega)) (fun i j hij hj => h2 i j hij (by omega)), h1 k (by omega), ?_⟩
    intro x hx y hy
    obtain ⟨i, hi, hx⟩ := partsL_mem.1 hx
    exact h2 i k hi (by omega) x hx y hy
theorem PlanN.sorted {p : PlanN} (h : p.Ok) : p.all.Pairwise later := by
  unfold PlanN.all PlanN.lO
  refine partsL_pairwise (fun o ho => ?_) (fun o o' hoo ho x hx y hy => ?_)
  · unfold PlanN.lI
    refine partsL_pairwise (fun i hi => ?_) (fun i i' hii hi x hx y hy => ?_)
    · unfold PlanN.lJ
      refine partsL_pairwise (fun j hj => ?_) (fun j j' hjj hj x hx y hy => ?_)
      · have hd := h.down i hi
        have hr := h.right j hj
        unfold PlanN.lC
        refine partsL_pairwise (fun c hc => ?_) (fun c c' hcc hc x hx y hy => ?_)
        · unfold PlanN.lT
          refine partsL_pairwise (fun t ht => ?_) (fun t t' htt ht x hx y hy => ?_)
          · unfold PlanN.lU
            refine partsL_pairwise (fun u hu => List.pairwise_singleton _ _) (fun u u' huu hu x hx y hy => ?_)
            rw [List.mem_singleton] at hx hy
            subst hx hy
            refine .inr ⟨rfl, ?_, ?_⟩
            · show p.b o c t u < p.b o c t u'
              unfold PlanN.b; omega
            · show p.d i j c t u < p.d i j c t u'
              unfold PlanN.d; omega
          · obtain ⟨u, hu, rfl⟩ := PlanN.lU_mem hx
            obtain ⟨u', hu', rfl⟩ := PlanN.lU_mem hy
            refine .inr ⟨rfl, lex_lt _ (lex_same htt) hu, ?_⟩
            show p.d i j c t u < p.d i j c t' u'
            unfold PlanN.d
            have := lex_lt (n := p.W) (i := c * p.H + i * p.dn + t) (i' := c * p.H + i * p.dn + t') (j := j * p.rt + u) (j * p.rt + u') (by omega) (by omega)
            omega
        · obtain ⟨t, u, ht, hu, rfl⟩ := PlanN.lT_mem hx
          obtain ⟨t', u', ht', hu', rfl⟩ := PlanN.lT_mem hy
          refine .inr ⟨rfl, lex_lt _ (lex_lt _ (lex_same hcc) ht) hu, ?_⟩
          show p.d i j c t u < p.d i j c' t' u'
          unfold PlanN.d
          have h1 := lex_lt (n := p.H) (i := c) (i' := c') (j := i * p.dn + t) (i * p.dn + t') hcc (by omega)
          have h2 := lex_lt (n := p.W) (i := c * p.H + i * p.dn + t) (i' := c' * p.H + i * p.dn + t') (j := j * p.rt + u) (j * p.rt + u') (by omega) (by omega)
          omega
      · obtain ⟨c, t, u, -, -, -, rfl⟩ := PlanN.lC_mem hx
        obtain ⟨c', t', u', -, -, -, rfl⟩ := PlanN.lC_mem hy
        exact .inl (lex_same hjj)
    · obtain ⟨j, c, t, u, hj, -, -, -, rfl⟩ := PlanN.lJ_mem hx
      obtain ⟨j', c', t', u', hj', -, -, -, rfl⟩ := PlanN.lJ_mem hy
      exact .inl (lex_lt _ (lex_same hii) hj)
  · obtain ⟨i, j, c, t, u, hi, hj, -, -, -, rfl⟩ := PlanN.lI_mem hx
    obtain ⟨i', j', c', t', u', hi', hj', -, -, -, rfl⟩ := PlanN.lI_mem hy
    exact .inl (lex_lt _ (lex_lt _ hoo hi) hj)
end Go.Proofs.Ytapelgjnnccfoaa

/-
  Products of a few numbers.
-/
namespace Go.Proofs.Ytapelgjnnccfoaa
theorem prodI_two (m n : Int) : prodI [m, n] = m * n := by simp [prodI]
theorem prodI_one (m : Int) : prodI [m] = m := by simp [prodI]
end Go.Proofs.Ytapelgjnnccfoaa

/-
  Layer 7 in mathematics: the answer's shape and the first error, as told by the document; the plan of two shapes.
-/
namespace Go.Proofs.Ytapelgjnnccfoaa
set_option linter.unusedVariables false
set_option linter.unusedSimpArgs false

/-- The shapes may be together: three sides and two, or four and three, and the same channels. -/
def formOk (w x : List Int) : Bool := rightS w && (rightS x && match w, x with
  | [_, c, _], [c', _] => decide (c = c')
  | [_, c, _, _], [c', _, _] => decide (c = c')
  | _, _ => false)
def winsOk (w x : List Int) (s : Int) : Bool := match w, x with
  | [_, _, l], [_, n] => decide (winE n l s = 0)
  | [_, _, k, l], [_, h, n] => decide (winE h k s = 0) && decide (winE n l s = 0)
  | _, _ => false
def outS (w x : List Int) (s : Int) : List Int := match w, x with
  | [o, _, l], [_, n] => [o, winN n l s]
  | [o, _, k, l], [_, h, n] => [o, winN h k s, winN n l s]
  | _, _ => []
/-- The first error. -/
def toldE (w x : List Int) (s : Int) : Int := if formOk w x = false then 20 else if winsOk w x s = false then 11 else if rightS (outS w x s) = false then 20 else 0
/-- The answer's shape; nothing with an error. -/
def toldS (w x : List Int) (s : Int) : List Int := if toldE w x s = 0 then outS w x s else []
theorem told_parts {w x : List Int} {s : Int} (h : toldE w x s = 0) : formOk w x = true ∧ winsOk w x s = true ∧ rightS (outS w x s) = true := by
  unfold toldE at h
  cases a : formOk w x
  · rw [if_pos a] at h; omega
  · rw [if_neg (by simp [a])] at h
    cases b : winsOk w x s
    · rw [if_pos b] at h; omega
    · rw [if_neg (by simp [b])] at h
      cases c : rightS (outS w x s)
      · rw [if_pos c] at h; omega
      · exact ⟨rfl, rfl, rfl⟩
theorem told_form {w x : List Int} {s : Int} (h : formOk w x = false) : toldE w x s = 20 := by unfold toldE; rw [if_pos h]
theorem told_wins {w x : List Int} {s : Int} (h : formOk w x = true) (h' : winsOk w x s = false) : toldE w x s = 11 := by unfold toldE; rw [if_neg (by simp [h]), if_pos h']
theorem told_out {w x : List Int} {s : Int} (h : formOk w x = true) (h' : winsOk w x s = true) (h2 : rightS (outS w x s) = false) : toldE w x s = 20 := by
  unfold toldE; rw [if_neg (by simp [h]), if_neg (by simp [h']), if_pos h2]
theorem told_none {w x : List Int} {s : Int} (h : toldE w x s ≠ 0) : toldS w x s = [] := by unfold toldS; rw [if_neg h]
theorem told_some {w x : List Int} {s : Int} (h : toldE w x s = 0) : toldS w x s = outS w x s := by unfold toldS; rw [if_pos h]

theorem winE_ok {side width step : Int} (h : winE side width step = 0) : (1 ≤ side ∧ side ≤ 1024) ∧ (1 ≤ width ∧ width ≤ 1024) ∧ (1 ≤ step ∧ step ≤ 1024) ∧ width ≤ side := by
  unfold winE at h
  by_cases c : inR 1 1024 side = true ∧ inR 1 1024 width = true ∧ inR 1 1024 step = true ∧ width ≤ side
  · obtain ⟨a, b, d, e⟩ := c
    exact ⟨inR_bounds a, inR_bounds b, inR_bounds d, e⟩
  · rw [if_neg c] at h; omega
theorem winN_nat {side width step : Nat} (h : winE side width step = 0) : winN side width step = (winC side width step : Nat) := by
  obtain ⟨⟨a1, a2⟩, ⟨b1, b2⟩, ⟨c1, c2⟩, e⟩ := winE_ok h
  have hc : inR 1 1024 (side : Int) = true ∧ inR 1 1024 (width : Int) = true ∧ inR 1 1024 (step : Int) = true ∧ (width : Int) ≤ side := by
    refine ⟨?_, ?_, ?_, e⟩ <;> (unfold inR; simp; omega)
  unfold winN winC
  rw [if_pos hc, if_pos (by omega)]
  have : ((side : Int) - (width : Int)) = ((side - width : Nat) : Int) := by omega
  rw [this]
  simp
  omega

/-- The plan of two shapes (one side is a height of 1). -/
def planOf (w x : List Int) (s : Int) : PlanN := match w, x with
  | [o, c, l], [_, n] => ⟨o.toNat, c.toNat, 1, l.toNat, 1, n.toNat, 1, s.toNat, 1, (winN n l s).toNat⟩
  | [o, c, k, l], [_, h, n] => ⟨o.toNat, c.toNat, k.toNat, l.toNat, h.toNat, n.toNat, s.toNat, s.toNat, (winN h k s).toNat, (winN n l s).toNat⟩
  | _, _ => ⟨0, 0, 0, 0, 0, 0, 0, 0, 0, 0⟩
theorem prodI_three (a b c : Int) : prodI [a, b, c] = a * b * c := by simp [prodI]
theorem prodI_four (a b c d : Int) : prodI [a, b, c, d] = a * b * c * d := by simp [prodI]
/-- All that the plan's numbers keep. -/
structure PlanFacts (w x : List Int) (s : Int) (p : PlanN) : Prop where
  ok : p.Ok
  out : ((p.O * p.m * p.n : Nat) : Int) = prodI (outS w x s)
  kernel : ((p.O * p.C * p.K * p.L : Nat) : Int) = prodI w
  inn : ((p.C * p.H * p.W : Nat) : Int) = prodI x
  pos : 1 ≤ p.O ∧ 1 ≤ p.C ∧ 1 ≤ p.K ∧ 1 ≤ p.L ∧ 1 ≤ p.H ∧ 1 ≤ p.W ∧ 1 ≤ p.dn ∧ 1 ≤ p.rt ∧ 1 ≤ p.m ∧ 1 ≤ p.n
  small : p.O ≤ 1024 ∧ p.C ≤ 1024 ∧ p.K ≤ 1024 ∧ p.L ≤ 1024 ∧ p.H ≤ 1024 ∧ p.W ≤ 1024 ∧ p.dn ≤ 1024 ∧ p.rt ≤ 1024 ∧ p.m ≤ 1024 ∧ p.n ≤ 1024
  wins : p.m = winC p.H p.K p.dn ∧ p.n = winC p.W p.L p.rt
  fits : p.K ≤ p.H ∧ p.L ≤ p.W
theorem win_at {side width step k : Nat} (hs : 1 ≤ step) (hw : 1 ≤ width) (h : width ≤ side) (hk : k < winC side width step) : k * step + width ≤ side := (winC_fits hs hw h).1 hk
theorem nat_of {z : Int} (h : 0 ≤ z) : ∃ n : Nat, z = n := ⟨z.toNat, by omega⟩
theorem winC_one : winC 1 1 1 = 1 := by decide
set_option maxHeartbeats 1000000 in
theorem plan_facts {w x : List Int} {s : Int} (h : toldE w x s = 0) : PlanFacts w x s (planOf w x s) := by
  obtain ⟨h1, h2, h3⟩ := told_parts h
  unfold formOk at h1
  rw [Bool.and_eq_true, Bool.and_eq_true] at h1
  obtain ⟨rw_, rx, hm⟩ := h1
  match w, x, hm, h2, h3, rw_, rx with
  | [o, c, l], [c', n], hm, h2, h3, rw_, rx =>
    have ec : c = c' := of_decide_eq_true hm
    subst ec
    have e1 : winE n l s = 0 := of_decide_eq_true h2
    obtain ⟨⟨n1, n2⟩, ⟨l1, l2⟩, ⟨s1, s2⟩, ln⟩ := winE_ok e1
    have aw := (rightS_parts rw_).2.2.1
    have o1 := allR_getD aw 0 (by simp)
    have c1 := allR_getD aw 1 (by simp)
    simp at o1 c1
    obtain ⟨O, rfl⟩ := nat_of (z := o) (by omega)
    obtain ⟨C, rfl⟩ := nat_of (z := c) (by omega)
    obtain ⟨L, rfl⟩ := nat_of (z := l) (by omega)
    obtain ⟨N, rfl⟩ := nat_of (z := n) (by omega)
    obtain ⟨S, rfl⟩ := nat_of (z := s) (by omega)
    have en := winN_nat e1
    have hp := winC_pos (side := N) (width := L) (step := S) (by omega) (by omega) (by omega)
    have hl := winC_le (side := N) (width := L) (step := S) (by omega) (by omega) (by omega)
    have ep : planOf [(O : Int), C, L] [(C : Int), N] S = ⟨O, C, 1, L, 1, N, 1, S, 1, winC N L S⟩ := by
      simp only [planOf, en, Int.toNat_natCast]
    rw [ep]
    refine ⟨⟨fun i hi => ?_, fun j hj => ?_⟩, ?_, ?_, ?_, ⟨by simp; omega, by simp; omega, by simp, by simp; omega, by simp, by simp; omega, by simp, by simp; omega, by simp, hp⟩,
      ⟨by simp; omega, by simp; omega, by simp, by simp; omega, by simp, by simp; omega, by simp, by simp; omega, by simp, by simp; omega⟩, ⟨winC_one.symm, rfl⟩, ⟨Nat.le_refl _, by simp; omega⟩⟩
    · have : i < 1 := hi
      show i * 1 + 1 ≤ 1
      omega
    · exact win_at (side := N) (width := L) (step := S) (by omega) (by omega) (by omega) hj
    · simp only [outS, en, prodI_two]; simp
    · rw [prodI_three]; simp
    · rw [prodI_two]; simp
  | [o, c, k, l], [c', hh, n], hm, h2, h3, rw_, rx =>
    have ec : c = c' := of_decide_eq_true hm
    subst ec
    have h2' : (decide (winE hh k s = 0) && decide (winE n l s = 0)) = true := h2
    rw [Bool.and_eq_true] at h2'
    have e0 : winE hh k s = 0 := of_decide_eq_true h2'.1
    have e1 : winE n l s = 0 := of_decide_eq_true h2'.2
    obtain ⟨⟨g1, g2⟩, ⟨k1, k2⟩, -, kh⟩ := winE_ok e0
    obtain ⟨⟨n1, n2⟩, ⟨l1, l2⟩, ⟨s1, s2⟩, ln⟩ := winE_ok e1
    have aw := (rightS_parts rw_).2.2.1
    have o1 := allR_getD aw 0 (by simp)
    have c1 := allR_getD aw 1 (by simp)
    simp at o1 c1
    obtain ⟨O, rfl⟩ := nat_of (z := o) (by omega)
    obtain ⟨C, rfl⟩ := nat_of (z := c) (by omega)
    obtain ⟨K, rfl⟩ := nat_of (z := k) (by omega)
    obtain ⟨L, rfl⟩ := nat_of (z := l) (by omega)
    obtain ⟨H, rfl⟩ := nat_of (z := hh) (by omega)
    obtain ⟨N, rfl⟩ := nat_of (z := n) (by omega)
    obtain ⟨S, rfl⟩ := nat_of (z := s) (by omega)
    have em := winN_nat e0
    have en := winN_nat e1
    have hp0 := winC_pos (side := H) (width := K) (step := S) (by omega) (by omega) (by omega)
    have hl0 := winC_le (side := H) (width := K) (step := S) (by omega) (by omega) (by omega)
    have hp := winC_pos (side := N) (width := L) (step := S) (by omega) (by omega) (by omega)
    have hl := winC_le (side := N) (width := L) (step := S) (by omega) (by omega) (by omega)
    have ep : planOf [(O : Int), C, K, L] [(C : Int), H, N] S = ⟨O, C, K, L, H, N, S, S, winC H K S, winC N L S⟩ := by
      simp only [planOf, em, en, Int.toNat_natCast]
    rw [ep]
    refine ⟨⟨fun i hi => ?_, fun j hj => ?_⟩, ?_, ?_, ?_, ⟨by simp; omega, by simp; omega, by simp; omega, by simp; omega, by simp; omega, by simp; omega, by simp; omega, by simp; omega, hp0, hp⟩,
      ⟨by simp; omega, by simp; omega, by simp; omega, by simp; omega, by simp; omega, by simp; omega, by simp; omega, by simp; omega, by simp; omega, by simp; omega⟩, ⟨rfl, rfl⟩, ⟨by simp; omega, by simp; omega⟩⟩
    · exact win_at (side := H) (width := K) (step := S) (by omega) (by omega) (by omega) hi
    · exact win_at (side := N) (width := L) (step := S) (by omega) (by omega) (by omega) hj
    · simp only [outS, em, en, prodI_three]; simp
    · rw [prodI_four]; simp
    · rw [prodI_three]; simp
end Go.Proofs.Ytapelgjnnccfoaa

/-
  Layer 7 in mathematics: the shapes' sides one by one, as the program goes through them.
-/
namespace Go.Proofs.Ytapelgjnnccfoaa
set_option linter.unusedVariables false
set_option linter.unusedSimpArgs false

theorem formOk_eq (w x : List Int) : formOk w x = (rightS w && (rightS x && (decide (w.length = x.length + 1) && (decide (x.length = 2 ∨ x.length = 3) && decide (w.getD 1 0 = x.getD 0 0))))) := by
  unfold formOk
  congr 1
  congr 1
  match w, x with
  | [], _ => simp
  | [_], [] => simp
  | [_], _ :: _ => simp
  | [_, _], [] => simp
  | [_, _], [_] => simp
  | [_, _], _ :: _ :: _ => simp
  | [_, _, _], [] => simp
  | [_, _, _], [_] => simp
  | [_, _, _], [_, _] => simp
  | [_, _, _], _ :: _ :: _ :: _ => simp
  | [_, _, _, _], [] => simp
  | [_, _, _, _], [_] => simp
  | [_, _, _, _], [_, _] => simp
  | [_, _, _, _], [_, _, _] => simp
  | [_, _, _, _], _ :: _ :: _ :: _ :: _ => simp
  | a :: b :: c :: d :: e :: l, x =>
    have : ∀ x : List Int, (decide ((a :: b :: c :: d :: e :: l).length = x.length + 1) && (decide (x.length = 2 ∨ x.length = 3) && decide ((a :: b :: c :: d :: e :: l).getD 1 0 = x.getD 0 0))) = false := by
      intro x
      cases h : decide ((a :: b :: c :: d :: e :: l).length = x.length + 1)
      · rfl
      · have h1 := of_decide_eq_true h
        simp only [List.length_cons] at h1
        have : decide (x.length = 2 ∨ x.length = 3) = false := decide_eq_false (by omega)
        rw [this]; rfl
    rw [this]
theorem formOk_parts {w x : List Int} (h : formOk w x = true) : rightS w = true ∧ rightS x = true ∧ w.length = x.length + 1 ∧ (x.length = 2 ∨ x.length = 3) ∧ w.getD 1 0 = x.getD 0 0 := by
  rw [formOk_eq] at h
  simp only [Bool.and_eq_true, decide_eq_true_eq] at h
  exact h
theorem form_cases {w x : List Int} (h : formOk w x = true) : (∃ o c l n, w = [o, c, l] ∧ x = [c, n]) ∨ (∃ o c k l hh n, w = [o, c, k, l] ∧ x = [c, hh, n]) := by
  obtain ⟨-, -, h1, h2, h3⟩ := formOk_parts h
  rcases h2 with h2 | h2
  · rw [h2] at h1
    match w, x, h1, h2, h3 with
    | [o, c, l], [c', n], _, _, h3 => left; simp at h3; subst h3; exact ⟨_, _, _, _, rfl, rfl⟩
  · rw [h2] at h1
    match w, x, h1, h2, h3 with
    | [o, c, k, l], [c', hh, n], _, _, h3 => right; simp at h3; subst h3; exact ⟨_, _, _, _, _, _, rfl, rfl⟩
theorem winE_or (n k s : Int) : winE n k s = 0 ∨ winE n k s = 11 := by unfold winE; split <;> simp
theorem wins_no {w x : List Int} {s : Int} (h : formOk w x = true) {j : Nat} (hj : j + 1 < x.length) (he : winE (x.getD (j + 1) 0) (w.getD (j + 2) 0) s ≠ 0) : winsOk w x s = false := by
  rcases form_cases h with ⟨o, c, l, n, rfl, rfl⟩ | ⟨o, c, k, l, hh, n, rfl, rfl⟩
  · have hj0 : j = 0 := by simp at hj; omega
    subst hj0
    have he' : ¬ winE n l s = 0 := he
    simp [winsOk, he']
  · simp at hj
    have : j = 0 ∨ j = 1 := by omega
    rcases this with rfl | rfl
    · have he' : ¬ winE hh k s = 0 := he
      simp [winsOk, he']
    · have he' : ¬ winE n l s = 0 := he
      simp [winsOk, he']
theorem wins_yes {w x : List Int} {s : Int} (h : formOk w x = true) (ha : ∀ j, j + 1 < x.length → winE (x.getD (j + 1) 0) (w.getD (j + 2) 0) s = 0) : winsOk w x s = true := by
  rcases form_cases h with ⟨o, c, l, n, rfl, rfl⟩ | ⟨o, c, k, l, hh, n, rfl, rfl⟩
  · have h0 : winE n l s = 0 := ha 0 (by simp)
    simp [winsOk, h0]
  · have h0 : winE hh k s = 0 := ha 0 (by simp)
    have h1 : winE n l s = 0 := ha 1 (by simp)
    simp [winsOk, h0, h1]
theorem outS_start {w x : List Int} {s : Int} (h : formOk w x = true) : (outS w x s).take 1 = [w.getD 0 0] := by
  rcases form_cases h with ⟨o, c, l, n, rfl, rfl⟩ | ⟨o, c, k, l, hh, n, rfl, rfl⟩ <;> simp [outS]
theorem outS_step {w x : List Int} {s : Int} (h : formOk w x = true) {j : Nat} (hj : j + 1 < x.length) : (outS w x s).take (j + 2) = (outS w x s).take (j + 1) ++ [winN (x.getD (j + 1) 0) (w.getD (j + 2) 0) s] := by
  rcases form_cases h with ⟨o, c, l, n, rfl, rfl⟩ | ⟨o, c, k, l, hh, n, rfl, rfl⟩
  · have hj0 : j = 0 := by simp at hj; omega
    subst hj0
    simp [outS]
  · simp at hj
    have : j = 0 ∨ j = 1 := by omega
    rcases this with rfl | rfl <;> simp [outS]
theorem outS_length {w x : List Int} {s : Int} (h : formOk w x = true) : (outS w x s).length = x.length := by
  rcases form_cases h with ⟨o, c, l, n, rfl, rfl⟩ | ⟨o, c, k, l, hh, n, rfl, rfl⟩ <;> simp [outS]
theorem winN_bounds (n k s : Int) : 0 ≤ winN n k s ∧ winN n k s ≤ 1024 := by
  unfold winN
  split
  · rename_i c
    obtain ⟨a, b, d, e⟩ := c
    have a' := inR_bounds a
    have b' := inR_bounds b
    have d' := inR_bounds d
    have h1 := Int.ediv_nonneg (a := n - k) (b := s) (by omega) (by omega)
    have h2 := Int.ediv_le_self (a := n - k) s (by omega)
    omega
  · omega
theorem outS_fits {w x : List Int} {s : Int} (h : formOk w x = true) : Fits (outS w x s) := by
  have hw := (formOk_parts h).1
  have hr := (rightS_parts hw).2.2.1
  have h4 := (rightS_parts hw).1
  obtain ⟨o1, o2⟩ := allR_getD hr 0 (by omega)
  rcases form_cases h with ⟨o, c, l, n, rfl, rfl⟩ | ⟨o, c, k, l, hh, n, rfl, rfl⟩
  · simp at o1 o2
    have := winN_bounds n l s
    intro z hz
    simp [outS] at hz
    rcases hz with rfl | rfl <;> omega
  · simp at o1 o2
    have := winN_bounds n l s
    have := winN_bounds hh k s
    intro z hz
    simp [outS] at hz
    rcases hz with rfl | rfl | rfl <;> omega
/-- The way to an error: which one. -/
theorem told_win {w x : List Int} {s : Int} (h : formOk w x = true) {j : Nat} (hj : j + 1 < x.length) (he : winE (x.getD (j + 1) 0) (w.getD (j + 2) 0) s = 11) : toldE w x s = 11 := told_wins h (wins_no h hj (by omega))
theorem told_ok {w x : List Int} {s : Int} (h : formOk w x = true) (h' : winsOk w x s = true) (h2 : rightS (outS w x s) = true) : toldE w x s = 0 := by
  unfold toldE; rw [if_neg (by simp [h]), if_neg (by simp [h']), if_neg (by simp [h2])]
end Go.Proofs.Ytapelgjnnccfoaa

