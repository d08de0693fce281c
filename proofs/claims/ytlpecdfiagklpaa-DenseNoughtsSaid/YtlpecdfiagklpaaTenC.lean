/-
  Contracts of package tensor: place, Get, With, Of.
-/
import Derived.Test.YtlpecdfiagklpaaTenB
namespace Go.Proofs.Ytlpecdfiagklpaa
open Go.RowKit
set_option linter.unusedVariables false
set_option linter.unusedSimpArgs false

def tplaceN (ss : List Int) (n : Nat) (l : List Int) : Int := if rightT ss n = true then placeN ss l else 0
def tplaceE (ss : List Int) (n : Nat) (l : List Int) : Int := if rightT ss n = true then placeE ss l else 20
theorem tplace_no {ss : List Int} {n : Nat} {l : List Int} (h : rightT ss n = false) : 0 = tplaceN ss n l ∧ 20 = tplaceE ss n l := by simp [tplaceN, tplaceE, h]
theorem tplace_yes {ss : List Int} {n : Nat} {l : List Int} (h : rightT ss n = true) : placeN ss l = tplaceN ss n l ∧ placeE ss l = tplaceE ss n l := by simp [tplaceN, tplaceE, h]

/-- Where there is such a place it is one of the cells. -/
theorem tplace_cell {ss : List Int} {n : Nat} {l : List Int} (h : tplaceE ss n l = 0) : ∃ k : Nat, k < n ∧ tplaceN ss n l = k := by
  unfold tplaceE at h
  by_cases hr : rightT ss n = true
  · rw [if_pos hr] at h
    obtain ⟨h1, h2⟩ := rightT_parts hr
    unfold placeE at h
    rw [if_pos h1] at h
    by_cases ha : atOk ss l = true
    · obtain ⟨p1, p2⟩ := numP_lt h1 ha
      refine ⟨(numP (ss.zip l)).toNat, by omega, ?_⟩
      simp only [tplaceN, placeN, hr, h1, ha, and_self, if_true]
      omega
    · rw [if_neg ha] at h; omega
  · rw [if_neg hr] at h; omega
theorem tplace_none {ss : List Int} {n : Nat} {l : List Int} (h : tplaceE ss n l ≠ 0) : tplaceN ss n l = 0 := by
  unfold tplaceE at h
  unfold tplaceN
  by_cases hr : rightT ss n = true
  · rw [if_pos hr] at h ⊢
    obtain ⟨h1, h2⟩ := rightT_parts hr
    unfold placeE at h
    unfold placeN
    rw [if_pos h1] at h
    by_cases ha : atOk ss l = true
    · rw [if_pos ha] at h; exact absurd rfl h
    · rw [if_neg (fun hh => ha hh.2)]
  · rw [if_neg hr]

/-- No tensor and this error. -/
def NilT (w : World) (x : Int) (e : Ending) (w' : World) : Prop := e = .returned (.tuple #[.agg #[.slice none 0 0, .slice none 0 0], .int .i64 x]) ∧ Below w.heap.size w w'
/-- A new tensor and no error. -/
def OkT (w : World) (sl : Nat) (ss : List Int) (cl : Nat) (cs : List Int) (e : Ending) (w' : World) : Prop := ∃ v, e = .returned (.tuple #[v, .int .i64 0]) ∧ NewT w sl ss cl cs v w'

end Go.Proofs.Ytlpecdfiagklpaa