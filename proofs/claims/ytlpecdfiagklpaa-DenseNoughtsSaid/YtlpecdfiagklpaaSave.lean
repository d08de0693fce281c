/-
  Worlds in which all blocks that were there are as they were, some of them apart; new blocks may come.
-/
import Derived.Test.YtlpecdfiagklpaaOnly
namespace Go.Proofs.Ytlpecdfiagklpaa
open Go.RowKit
set_option linter.unusedVariables false
set_option linter.unusedSimpArgs false

structure Save (s : Nat → Prop) (w w' : World) : Prop where
  os : w'.os = w.os
  tape : w'.tape = w.tape
  output : w'.output = w.output
  size : w.heap.size ≤ w'.heap.size
  block : ∀ k, k < w.heap.size → ¬ s k → w'.heap[k]? = w.heap[k]?
section
variable {s : Nat → Prop} {w w' w'' : World}
theorem Save.refl (s : Nat → Prop) (w : World) : Save s w w := ⟨rfl, rfl, rfl, Nat.le_refl _, fun _ _ _ => rfl⟩
theorem Save.later (h : Save s w w') (hb : Below w'.heap.size w' w'') : Save s w w'' :=
  ⟨hb.os.trans h.os, hb.tape.trans h.tape, hb.output.trans h.output, Nat.le_trans h.size hb.size, fun k hk hs => (hb.block k (Nat.lt_of_lt_of_le hk h.size)).trans (h.block k hk hs)⟩
theorem Save.of_below (hb : Below w.heap.size w w') : Save s w w' := (Save.refl s w).later hb
theorem Save.setCell (h : Save s w w') {g : Nat} (hg : s g) (j : Nat) (v : Value) : Save s w (w'.setCell ⟨g, j, none⟩ v) := by
  have hb : Below 0 w' (w'.setCell ⟨g, j, none⟩ v) := (Below.refl 0 w').setCell (Nat.zero_le _) v
  refine ⟨hb.os.trans h.os, hb.tape.trans h.tape, hb.output.trans h.output, by simpa using h.size, fun k hk hs => (Below.heap_setCell w' ⟨g, j, none⟩ v k (fun e => hs (by subst e; exact hg))).trans (h.block k hk hs)⟩
theorem Save.drew (h : Save s w w') : Save s w w'.drew := ⟨h.os, h.tape, h.output, h.size, h.block⟩
theorem Save.drewN (h : Save s w w') (n : Nat) : Save s w (w'.drewN n) := ⟨h.os, h.tape, h.output, h.size, h.block⟩
theorem Save.grown {row : Option Nat} (h : Save s w w') (hg : w'.grownBy w'' row) (hr : ∀ q, row = some q → w.heap.size ≤ q) : Save s w w'' :=
  ⟨hg.os.trans h.os, hg.tape.trans h.tape, hg.output.trans h.output, Nat.le_trans h.size hg.size, fun k hk hs => (hg.block k (Nat.lt_of_lt_of_le hk h.size) (fun e => by have := hr k e.symm; omega)).trans (h.block k hk hs)⟩
theorem Save.below {B : Nat} {w0 : World} (h : Save s w w') (hb : Below B w0 w) (hB : B ≤ w.heap.size) (hg : ∀ k, s k → B ≤ k) : Below B w0 w' :=
  ⟨h.os.trans hb.os, h.tape.trans hb.tape, h.output.trans hb.output, Nat.le_trans hb.size h.size, fun k hk => (h.block k (by omega) (fun hs => by have := hg k hs; omega)).trans (hb.block k hk)⟩
theorem Save.gat {B : Nat} {x c : Value} (h : Save s w w') (hG : GAt w B x c) (hB : ¬ s B) : GAt w' B x c := (h.block B hG.lt hB).trans hG
theorem Save.cell {p : Addr} {v : Value} (h : Save s w w') (hc : w.cell? p = some v) (hp : ¬ s p.block) : w'.cell? p = some v :=
  (World.cell?_of_block (h.block p.block (World.block_lt_of_cell? w p hc) hp)).trans hc
theorem Save.ints {a : Option Addr} {n : Nat} {zs : List Int} (hO : Save s w w') (h : IntsAt w a n zs) (hg : ∀ q, a = some q → ¬ s q.block) : IntsAt w' a n zs := by
  obtain ⟨h1, h2, h3, h4⟩ := h
  refine ⟨h1, h2, h3, ?_⟩
  rcases h4 with h4 | ⟨b, off, ha, hc⟩
  · exact .inl h4
  · exact .inr ⟨b, off, ha, fun j hj => hO.cell (hc j hj) (fun hs => hg _ ha hs)⟩
theorem Save.row {B : Nat} {e : TypeId} {k : Nat} {v : Value} {n : Nat} {xs : List Value} (hO : Save s w w') (h : w.ownsRow B e k v n xs) (hg : ∀ q, v.ownBlock = some q → ¬ s q) : w'.ownsRow B e k v n xs := by
  rcases h.2 with h2 | ⟨g', cap, cur, hv, hbg, hg', rest⟩
  · exact ⟨h.1, .inl h2⟩
  · exact ⟨h.1, .inr ⟨g', cap, cur, hv, hbg, (hO.block g' (Array.getElem?_eq_some_iff.1 hg').1 (hg g' (by rw [hv]; rfl))).trans hg', rest⟩⟩
end
end Go.Proofs.Ytlpecdfiagklpaa
