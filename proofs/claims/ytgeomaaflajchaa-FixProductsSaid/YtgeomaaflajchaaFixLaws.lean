/-
  Plain laws of saturating products and quotients: the order of the factors, the factors one and zero, monotony.
-/
import Derived.Test.YtgeomaaflajchaaFixMath
namespace Go.Proofs.Ytgeomaaflajchaa
set_option linter.unusedVariables false
set_option linter.unusedSimpArgs false

theorem mulF_comm (x y : Int) : mulF y x = mulF x y := by
  unfold mulF
  have e : (decide (y < 0) != decide (x < 0)) = (decide (x < 0) != decide (y < 0)) := by
    cases decide (y < 0) <;> cases decide (x < 0) <;> rfl
  rw [Int.mul_comm (mag y), e]
theorem mulF_zero (x : Int) : mulF x 0 = 0 := by
  have e : mag 0 = 0 := rfl
  unfold mulF
  rw [e, Int.mul_zero]
  have f : rndFull (0 / 4294967296) (0 % 4294967296) 4294967296 = 0 := by decide +kernel
  rw [f]
  unfold sgn
  rw [if_pos (by omega)]
  split <;> rfl
theorem mulF_one (x : Int) (h1 : -9223372036854775808 ≤ x) (h2 : x ≤ 9223372036854775807) : mulF x 4294967296 = x := by
  have e : mag 4294967296 = 4294967296 := rfl
  unfold mulF
  have a : mag x * 4294967296 / 4294967296 = mag x := by omega
  have b : mag x * 4294967296 % 4294967296 = 0 := by omega
  rw [e, a, b]
  have u : up (mag x) 0 4294967296 = false := by
    unfold up; simp
  have r : rndFull (mag x) 0 4294967296 = mag x := by unfold rndFull; rw [if_neg (by rw [u]; decide)]
  rw [r]
  have d : (decide (x < 0) != decide ((4294967296 : Int) < 0)) = decide (x < 0) := by
    simp
  rw [d]
  unfold sgn mag
  by_cases c : x < 0
  · simp only [c, if_true, decide_true]
    split <;> omega
  · simp only [c, if_false, decide_false]
    rw [if_pos (by omega)]
    rfl
theorem divF_one (x : Int) (h1 : -9223372036854775808 ≤ x) (h2 : x ≤ 9223372036854775807) : divF x 4294967296 = x := by
  unfold divF
  by_cases c : x = 0
  · rw [if_pos c, c]
  · rw [if_neg c, if_neg (by omega)]
    have e := mulF_one x h1 h2
    unfold mulF at e
    have f : mag 4294967296 = 4294967296 := rfl
    rw [f] at e ⊢
    exact e
theorem divF_self (x : Int) (h : x ≠ 0) : divF x x = 4294967296 := by
  unfold divF
  rw [if_neg h, if_neg h]
  have m : 0 < mag x := by unfold mag; split <;> omega
  have a : mag x * 4294967296 / mag x = 4294967296 := Int.mul_ediv_cancel_left _ (by omega)
  have b : mag x * 4294967296 % mag x = 0 := Int.mul_emod_right _ _
  rw [a, b]
  have u : up 4294967296 0 (mag x) = false := by
    unfold up; simp; omega
  have r : rndFull 4294967296 0 (mag x) = 4294967296 := by unfold rndFull; rw [if_neg (by rw [u]; decide)]
  rw [r]
  simp [sgn]

end Go.Proofs.Ytgeomaaflajchaa
