/-
  Worlds that differ in one block alone; rows of which the first places are changed.
-/
import Derived.Test.YtlpecdfiagklpaaTenE
import Derived.Test.YtlpecdfiagklpaaFixLaws
namespace Go.Proofs.Ytlpecdfiagklpaa
open Go.RowKit
set_option linter.unusedVariables false
set_option linter.unusedSimpArgs false

/-- Block g alone may have changed. -/
structure Only (g : Nat) (w w' : World) : Prop where
  os : w'.os = w.os
  tape : w'.tape = w.tape
  output : w'.output = w.output
  size : w'.heap.size = w.heap.size
  block : ∀ k, k ≠ g → w'.heap[k]? = w.heap[k]?
theorem Only.refl (g : Nat) (w : World) : Only g w w := ⟨rfl, rfl, rfl, rfl, fun _ _ => rfl⟩
theorem Only.setCell {g : Nat} {w w' : World} (h : Only g w w') (j : Nat) (v : Value) : Only g w (w'.setCell ⟨g, j, none⟩ v) := by
  have hb : Below 0 w' (w'.setCell ⟨g, j, none⟩ v) := (Below.refl 0 w').setCell (Nat.zero_le _) v
  refine ⟨hb.os.trans h.os, hb.tape.trans h.tape, hb.output.trans h.output, ?_, fun k hk => (Below.heap_setCell w' ⟨g, j, none⟩ v k hk).trans (h.block k hk)⟩
  rw [← h.size]; simp
theorem Only.drew {g : Nat} {w w' : World} (h : Only g w w') : Only g w w'.drew := ⟨h.os, h.tape, h.output, h.size, h.block⟩
theorem Only.drewN {g : Nat} {w w' : World} (h : Only g w w') (n : Nat) : Only g w (w'.drewN n) := ⟨h.os, h.tape, h.output, h.size, h.block⟩
theorem Only.below {g B : Nat} {w0 w w' : World} (h : Only g w w') (hb : Below B w0 w) (hg : B ≤ g) : Below B w0 w' :=
  ⟨h.os.trans hb.os, h.tape.trans hb.tape, h.output.trans hb.output, by rw [h.size]; exact hb.size, fun k hk => (h.block k (by omega)).trans (hb.block k hk)⟩
theorem Only.gat {g B : Nat} {w w' : World} {s c : Value} (h : Only g w w') (hG : GAt w B s c) (hB : B ≠ g) : GAt w' B s c := (h.block B hB).trans hG
theorem Only.row {g B : Nat} {w w' : World} {e : TypeId} {k : Nat} {v : Value} {n : Nat} {xs : List Value} (hO : Only g w w') (h : w.ownsRow B e k v n xs) (hg : ∀ q, v.ownBlock = some q → q ≠ g) : w'.ownsRow B e k v n xs := by
  rcases h.2 with h2 | ⟨g', cap, cur, hv, hbg, hg', rest⟩
  · exact ⟨h.1, .inl h2⟩
  · exact ⟨h.1, .inr ⟨g', cap, cur, hv, hbg, (hO.block g' (hg g' (by rw [hv]; rfl))).trans hg', rest⟩⟩
theorem Only.ints {g : Nat} {w w' : World} {a : Option Addr} {n : Nat} {zs : List Int} (hO : Only g w w') (h : IntsAt w a n zs) (hg : ∀ q, a = some q → q.block ≠ g) : IntsAt w' a n zs := by
  obtain ⟨h1, h2, h3, h4⟩ := h
  refine ⟨h1, h2, h3, ?_⟩
  rcases h4 with h4 | ⟨b, off, ha, hc⟩
  · exact .inl h4
  · refine .inr ⟨b, off, ha, fun j hj => ?_⟩
    rw [World.cell?_of_block (w := w) (w' := w') (a := ⟨b, off + j, none⟩) (hO.block b (hg _ ha))]
    exact hc j hj

/-- The first k places of cs are those of xs. -/
def mixR (xs cs : List Int) (k : Nat) : List Int := xs.take k ++ cs.drop k
theorem mixR_zero (xs cs : List Int) : mixR xs cs 0 = cs := by simp [mixR]
theorem mixR_all {xs cs : List Int} {k : Nat} (h1 : xs.length = k) (h2 : cs.length = k) : mixR xs cs k = xs := by
  unfold mixR; rw [List.take_of_length_le (by omega), List.drop_of_length_le (by omega), List.append_nil]
theorem mixR_length {xs cs : List Int} {k : Nat} (h : xs.length = cs.length) (hk : k ≤ xs.length) : (mixR xs cs k).length = cs.length := by
  unfold mixR; rw [List.length_append, List.length_take, List.length_drop]; omega
theorem mixR_get {xs cs : List Int} {k : Nat} (h : xs.length = cs.length) (hk : k < cs.length) : (mixR xs cs k)[k]? = some (cs.getD k 0) := by
  unfold mixR
  rw [List.getElem?_append_right (by rw [List.length_take]; omega), List.length_take, show k - min k xs.length = 0 by omega, List.getElem?_drop]
  simp [List.getD, List.getElem?_eq_getElem hk]
theorem mixR_set {xs cs : List Int} {k : Nat} (h : xs.length = cs.length) (hk : k < cs.length) : (mixR xs cs k).set k (xs.getD k 0) = mixR xs cs (k + 1) := by
  unfold mixR
  rw [List.set_append_right _ _ (by rw [List.length_take]; omega), List.length_take, show k - min k xs.length = 0 by omega, List.drop_eq_getElem_cons hk, List.set_cons_zero, List.take_add_one, List.getElem?_eq_getElem (show k < xs.length by omega), List.append_assoc]
  simp [List.getD, List.getElem?_eq_getElem (show k < xs.length by omega)]
theorem mixR_fits {xs cs : List Int} (h : Fits xs) (h' : Fits cs) (k : Nat) : Fits (mixR xs cs k) := by
  intro n hn
  unfold mixR at hn
  rcases List.mem_append.1 hn with hn | hn
  · exact h n (List.mem_of_mem_take hn)
  · exact h' n (List.mem_of_mem_drop hn)

/-- Each cell multiplied. -/
def scaleL (cs : List Int) (y : Int) : List Int := cs.map fun x => mulF x y
theorem scaleL_length (cs : List Int) (y : Int) : (scaleL cs y).length = cs.length := by simp [scaleL]
theorem scaleL_get {cs : List Int} {y : Int} {k : Nat} (h : k < cs.length) : (scaleL cs y).getD k 0 = mulF (cs.getD k 0) y := by
  simp [scaleL, List.getD, List.getElem?_eq_getElem h]
theorem scaleL_fits (cs : List Int) (y : Int) : Fits (scaleL cs y) := by
  intro n hn
  obtain ⟨x, -, rfl⟩ := List.mem_map.1 hn
  exact mulF_bounds x y
/-- The sums of the cells at the same places. -/
def addL (cs ds : List Int) : List Int := List.zipWith (fun x y => sat (x + y)) cs ds
theorem addL_length {cs ds : List Int} (h : cs.length = ds.length) : (addL cs ds).length = cs.length := by simp [addL]; omega
theorem addL_get {cs ds : List Int} {k : Nat} (h : cs.length = ds.length) (hk : k < cs.length) : (addL cs ds).getD k 0 = sat (cs.getD k 0 + ds.getD k 0) := by
  simp [addL, List.getD, List.getElem?_zipWith, List.getElem?_eq_getElem hk, List.getElem?_eq_getElem (show k < ds.length by omega)]
theorem addL_fits (cs ds : List Int) : Fits (addL cs ds) := by
  unfold addL
  induction cs generalizing ds with
  | nil => intro n hn; simp at hn
  | cons x cs ih =>
    cases ds with
    | nil => intro n hn; simp at hn
    | cons y ds =>
      intro n hn
      rw [List.zipWith_cons_cons, List.mem_cons] at hn
      rcases hn with rfl | hn
      · exact sat_bounds _
      · exact ih ds n hn
end Go.Proofs.Ytlpecdfiagklpaa
