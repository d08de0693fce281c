/-
  Contracts of package shape: Join, Cut.
-/
import Derived.Test.YtlpecdfiagklpaaShapeU
import Derived.Deep.RegionWith
import Derived.IntWalk
namespace Go.Proofs.Ytlpecdfiagklpaa
open Go.RowKit
set_option linter.unusedVariables false
set_option linter.unusedSimpArgs false

/-- No shape and this error; all that was there before is as it was. -/
def NilE (w : World) (x : Int) (e : Ending) (w' : World) : Prop := e = .returned (.tuple #[.slice none 0 0, .int .i64 x]) ∧ Below w.heap.size w w'
/-- A new slice of these integers and no error. -/
def NewE (w : World) (n : Nat) (zs : List Int) (e : Ending) (w' : World) : Prop :=
  ∃ A cap, e = .returned (.tuple #[.slice A n cap, .int .i64 0]) ∧ w'.ownsRow w.heap.size 3 1 (.slice A n cap) n (zs.map (Value.int .i64)) ∧ Below w.heap.size w w'

theorem row_kept {B : Nat} {e : TypeId} {k : Nat} {v : Value} {n : Nat} {xs : List Value} {w w' : World} (h : w.ownsRow B e k v n xs) (hb : Below w.heap.size w w') : w'.ownsRow B e k v n xs := by
  refine ⟨h.1, ?_⟩
  rcases h.2 with h2 | ⟨g, cap, cur, hv, hbg, hg, r1, r2, r3, r4⟩
  · exact .inl h2
  · exact .inr ⟨g, cap, cur, hv, hbg, by rw [hb.block g (by apply Decidable.byContradiction; intro hn; rw [Array.getElem?_eq_none (by omega)] at hg; cases hg)]; exact hg, r1, r2, r3, r4⟩

end Go.Proofs.Ytlpecdfiagklpaa