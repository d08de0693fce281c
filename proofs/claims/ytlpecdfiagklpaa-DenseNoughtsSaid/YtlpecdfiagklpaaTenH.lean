/-
  Contracts of package tensor: Dot; of the statements' file: small, right; the fixed answer of the statements of layer 4.
-/
import Derived.Test.YtlpecdfiagklpaaTenG
namespace Go.Proofs.Ytlpecdfiagklpaa
open Go.RowKit
set_option linter.unusedVariables false
set_option linter.unusedSimpArgs false

theorem rightT_pos {ss : List Int} {n : Nat} (h : rightT ss n = true) : 0 < n := by
  obtain ⟨h1, h2⟩ := rightT_parts h
  have := prodI_pos (rightS_parts h1).2.2.1
  omega
theorem alikeT_parts {s1 s2 : List Int} {n1 n2 : Nat} (h : alikeT s1 n1 s2 n2 = true) : rightT s1 n1 = true ∧ rightT s2 n2 = true ∧ s1 = s2 ∧ n1 = n2 := by
  simp only [alikeT, Bool.and_eq_true] at h
  obtain ⟨⟨h1, h2⟩, h3⟩ := h
  have e := sameL_eq h3
  refine ⟨h1, h2, e, ?_⟩
  have x1 := (rightT_parts h1).2
  have x2 := (rightT_parts h2).2
  rw [← e] at x2
  omega

/-- The statements look at tensors of at most 50 sides and 600 cells. -/
def smallT (sl cl : Nat) : Bool := decide (sl ≤ 50) && decide (cl ≤ 600)

end Go.Proofs.Ytlpecdfiagklpaa