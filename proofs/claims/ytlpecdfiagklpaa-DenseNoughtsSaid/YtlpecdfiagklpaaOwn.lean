/-
  New slices of 64-bit integers: rows that nobody else holds.
-/
import Derived.Test.YtlpecdfiagklpaaInts
import Derived.Test.YtlpecdfiagklpaaRows
import Derived.Laws.OwnMore
import Derived.Deep.AppendLies
import Derived.Lib.SliceRun
import Derived.Lib.SmallJoins
namespace Go.Proofs.Ytlpecdfiagklpaa
open Go.RowKit
set_option linter.unusedVariables false
set_option linter.unusedSimpArgs false

theorem intInfo : (Try.prog.info? 3).map (fun i => (i.zero, i.size, i.bytes)) = some (some (.int .i64 0), 1, 8) := by kernel_rfl

/-- A new row of integers reads as these integers. -/
theorem row_ints {w : World} {B : Nat} {e : TypeId} {A : Option Addr} {n cap : Nat} {zs : List Int} (h : w.ownsRow B e 1 (.slice A n cap) n (zs.map (Value.int .i64))) (h1 : n ≤ 9223372036854775807) (hf : Fits zs) : IntsAt w A n zs := by
  have hl : zs.length = n := by have := h.1; simpa using this
  refine ⟨hl, h1, hf, ?_⟩
  by_cases hn : 0 < n
  · obtain ⟨g, cap', hv⟩ := Joins.ownsRow_form h hn
    simp only [Value.slice.injEq] at hv
    obtain ⟨rfl, -, rfl⟩ := hv
    refine .inr ⟨g, 0, rfl, fun j hj => ?_⟩
    rw [Nat.zero_add, h.cellAt j (by omega)]
    simp [List.getD, List.getElem?_eq_getElem (show j < zs.length by omega)]
  · exact .inl (by omega)

theorem own_ints {w : World} {B : Nat} {e : TypeId} {v : Value} {n : Nat} {zs : List Int} (h : w.ownsRow B e 1 v n (zs.map (Value.int .i64))) (hl : zs.length = n) (h1 : n ≤ 9223372036854775807) (hf : Fits zs) :
    ∃ A cap, v = .slice A n cap ∧ IntsAt w A n zs := by
  rcases Joins.ownsRow_forms h with ⟨rfl, rfl⟩ | ⟨g, cap, rfl⟩
  · exact ⟨_, _, rfl, row_ints h h1 hf⟩
  · exact ⟨_, _, rfl, row_ints h h1 hf⟩

/-- What came back is a new slice of these integers; all that was there before is as it was. -/
def NewInts (w : World) (n : Nat) (zs : List Int) (e : Ending) (w' : World) : Prop :=
  ∃ A cap, e = .returned (.slice A n cap) ∧ w'.ownsRow w.heap.size 3 1 (.slice A n cap) n (zs.map (Value.int .i64)) ∧ Below w.heap.size w w'

theorem Fits.set {l : List Int} (h : Fits l) (k : Nat) (x : Int) (h1 : -9223372036854775808 ≤ x) (h2 : x ≤ 9223372036854775807) : Fits (l.set k x) := by
  intro n hn
  rcases List.mem_or_eq_of_mem_set hn with h' | rfl
  · exact h n h'
  · exact ⟨h1, h2⟩

end Go.Proofs.Ytlpecdfiagklpaa
