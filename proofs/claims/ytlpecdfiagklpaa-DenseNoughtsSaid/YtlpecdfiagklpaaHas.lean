/-
  Blocks that stay whole through an iterator's steps.
-/
import Derived.Test.YtlpecdfiagklpaaRange
import Derived.Test.YtlpecdfiagklpaaOwn
namespace Go.Proofs.Ytlpecdfiagklpaa
open Go.RowKit
set_option linter.unusedVariables false
set_option linter.unusedSimpArgs false

/-- Block k is not the iterator's and holds these cells. -/
def Has (O : BSet) (W : World) (k : Nat) (cur : Array Value) (t : TypeId) : Prop := ¬ O k ∧ W.heap[k]? = some (.cells cur t (0, 0))
theorem Has.lt {O : BSet} {W : World} {k : Nat} {cur : Array Value} {t : TypeId} (h : Has O W k cur t) : k < W.heap.size := (Array.getElem?_eq_some_iff.1 h.2).1
theorem Has.stable {O O' : BSet} {W W' : World} {k : Nat} {cur : Array Value} {t : TypeId} (h : Has O W k cur t) (hs : ItStep O W O' W') : Has O' W' k cur t :=
  ⟨not_own hs h.lt h.1, (hs.block k h.lt h.1).trans h.2⟩
theorem Has.cell {O : BSet} {W : World} {k : Nat} {cur : Array Value} {t : TypeId} (h : Has O W k cur t) (j : Nat) : W.cell? ⟨k, j, none⟩ = cur[j]? := by
  rw [cell_of_row W k j cur t (0, 0) h.2]
theorem Has.frozen {O : BSet} {W : World} {k : Nat} {cur : Array Value} {t : TypeId} (h : Has O W k cur t) (j : Nat) : W.frozen? ⟨k, j, none⟩ = false := frozen_of_row W k j cur t h.2
theorem Has.set {O : BSet} {W : World} {k : Nat} {cur : Array Value} {t : TypeId} (h : Has O W k cur t) (j : Nat) (v : Value) : Has O (W.setCell ⟨k, j, none⟩ v) k (cur.setIfInBounds j v) t :=
  ⟨h.1, heap_setCell_same W k j cur t v h.2⟩
theorem Has.other {O : BSet} {W : World} {k : Nat} {cur : Array Value} {t : TypeId} (h : Has O W k cur t) {p : Addr} (v : Value) (hp : k ≠ p.block) : Has O (W.setCell p v) k cur t :=
  ⟨h.1, (Below.heap_setCell W p v k hp).trans h.2⟩
theorem Has.below {O : BSet} {W W' : World} {k : Nat} {cur : Array Value} {t : TypeId} (h : Has O W k cur t) (hb : Below W.heap.size W W') : Has O W' k cur t := h.stable (ItStep.of_below hb)
theorem Has.drew {O : BSet} {W : World} {k : Nat} {cur : Array Value} {t : TypeId} (h : Has O W k cur t) : Has O W.drew k cur t := h
theorem Has.made {O : BSet} (W : World) (cur : Array Value) (t : TypeId) (h : ¬ O W.heap.size) : Has O (W.alloc (.cells cur t)) W.heap.size cur t := ⟨h, World.alloc_heap_new W _⟩

/-- All that was there at the start is as it was; the iterator's blocks are new. -/
def Base (w : World) (O : BSet) (W : World) : Prop := Below w.heap.size w W ∧ ∀ k, O k → w.heap.size ≤ k
theorem Base.stable {w : World} {O O' : BSet} {W W' : World} (h : Base w O W) (hs : ItStep O W O' W') : Base w O' W' := by
  refine ⟨⟨hs.os.trans h.1.os, hs.tape.trans h.1.tape, hs.output.trans h.1.output, Nat.le_trans h.1.size hs.size, fun k hk => ?_⟩, fun k hk => ?_⟩
  · exact (hs.block k (Nat.lt_of_lt_of_le hk h.1.size) (fun ho => by have := h.2 k ho; omega)).trans (h.1.block k hk)
  · rcases hs.new k hk with h1 | h1
    · exact h.2 k h1
    · exact Nat.le_trans h.1.size h1
theorem Base.trans {w : World} {O : BSet} {W W' : World} (h : Base w O W) (hb : Below w.heap.size W W') : Base w O W' := ⟨h.1.trans hb, h.2⟩
theorem RdStep.drew (M : BSet) (W : World) : RdStep M W W.drew := RdStep.of_below (Below.refl _ _).drew
theorem below_putObj {B : Nat} {w W : World} (h : Below B w W) (D : Nat) (o : Obj) (hD : B ≤ D) : Below B w (W.putObj D o) :=
  ⟨h.os, h.tape, h.output, Nat.le_trans h.size (by simp), fun k hk => (World.putObj_heap_other (by omega)).trans (h.block k hk)⟩
theorem Has.putObj {O : BSet} {W : World} {k : Nat} {cur : Array Value} {t : TypeId} (h : Has O W k cur t) (D : Nat) (o : Obj) (hD : O D) : Has O (W.putObj D o) k cur t := h.stable (ItStep.putObj W D o hD)
/-- A whole block is a row of its own. -/
theorem Has.row {O : BSet} {W : World} {k : Nat} {zs : List Int} {t : TypeId} (h : Has O W k (zs.map (Value.int .i64)).toArray t) {B n : Nat} (hB : B ≤ k) (hn : zs.length = n) (hm : n ≤ maxLen) :
    W.ownsRow B t 1 (.slice (some ⟨k, 0, none⟩) n n) n (zs.map (Value.int .i64)) :=
  ⟨by simp [hn], .inr ⟨k, n, _, rfl, hB, h.2, Nat.le_refl _, hm, by simp [hn], by rw [List.take_of_length_le (by simp [hn])]⟩⟩
end Go.Proofs.Ytlpecdfiagklpaa
