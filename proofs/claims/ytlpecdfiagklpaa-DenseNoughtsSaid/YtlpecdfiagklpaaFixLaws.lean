/-
  Plain laws of saturating products and quotients: the order of the factors, the factors one and zero, monotony.
-/
import Derived.Test.YtlpecdfiagklpaaFixMath
namespace Go.Proofs.Ytlpecdfiagklpaa
set_option linter.unusedVariables false
set_option linter.unusedSimpArgs false

theorem mulF_comm (x y : Int) : mulF y x = mulF x y := by
  unfold mulF
  have e : (decide (y < 0) != decide (x < 0)) = (decide (x < 0) != decide (y < 0)) := by
    cases decide (y < 0) <;> cases decide (x < 0) <;> rfl
  rw [Int.mul_comm (mag y), e]
theorem mulF_zero (x : Int) : mulF x 0 = 0 := by
  have e : mag 0 = 0 := rfl
  unfold mulF
  rw [e, Int.mul_zero]
  have f : rndFull (0 / 4294967296) (0 % 4294967296) 4294967296 = 0 := by decide +kernel
  rw [f]
  unfold sgn
  rw [if_pos (by omega)]
  split <;> rfl
theorem mulF_one (x : Int) (h1 : -9223372036854775808 ≤ x) (h2 : x ≤ 9223372036854775807) : mulF x 4294967296 = x := by
  have e : mag 4294967296 = 4294967296 := rfl
  unfold mulF
  have a : mag x * 4294967296 / 4294967296 = mag x := by omega
  have b : mag x * 4294967296 % 4294967296 = 0 := by omega
  rw [e, a, b]
  have u : up (mag x) 0 4294967296 = false := by
    unfold up; simp
  have r : rndFull (mag x) 0 4294967296 = mag x := by unfold rndFull; rw [if_neg (by rw [u]; decide)]
  rw [r]
  have d : (decide (x < 0) != decide ((4294967296 : Int) < 0)) = decide (x < 0) := by
    simp
  rw [d]
  unfold sgn mag
  by_cases c : x < 0
  · simp only [c, if_true, decide_true]
    split <;> omega
  · simp only [c, if_false, decide_false]
    rw [if_pos (by omega)]
    rfl
theorem divF_one (x : Int) (h1 : -9223372036854775808 ≤ x) (h2 : x ≤ 9223372036854775807) : divF x 4294967296 = x := by
  unfold divF
  by_cases c : x = 0
  · rw [if_pos c, c]
  · rw [if_neg c, if_neg (by omega)]
    have e := mulF_one x h1 h2
    unfold mulF at e
    have f : mag 4294967296 = 4294967296 := rfl
    rw [f] at e ⊢
    exact e
theorem divF_self (x : Int) (h : x ≠ 0) : divF x x = 4294967296 := by
  unfold divF
  rw [if_neg h, if_neg h]
  have m : 0 < mag x := by unfold mag; split <;> omega
  have a : mag x * 4294967296 / mag x = 4294967296 := Int.mul_ediv_cancel_left _ (by omega)
  have b : mag x * 4294967296 % mag x = 0 := Int.mul_emod_right _ _
  rw [a, b]
  have u : up 4294967296 0 (mag x) = false := by
    unfold up; simp; omega
  have r : rndFull 4294967296 0 (mag x) = 4294967296 := by unfold rndFull; rw [if_neg (by rw [u]; decide)]
  rw [r]
  simp [sgn]

/-- A magnitude of a product, rounded. -/
theorem rnd_mono {P P' : Int} (h : P ≤ P') : rndFull (P / 4294967296) (P % 4294967296) 4294967296 ≤ rndFull (P' / 4294967296) (P' % 4294967296) 4294967296 := by
  unfold rndFull up
  simp only [Bool.or_eq_true, Bool.and_eq_true, decide_eq_true_eq]
  split <;> split <;> omega
theorem sgn_mono {m m' : Int} (h : m ≤ m') : sgn false m ≤ sgn false m' := by
  have e1 : sgn false m = if m < 9223372036854775808 then m else 9223372036854775807 := rfl
  have e2 : sgn false m' = if m' < 9223372036854775808 then m' else 9223372036854775807 := rfl
  rw [e1, e2]; split <;> split <;> omega
theorem sgn_anti {m m' : Int} (h : m ≤ m') : sgn true m' ≤ sgn true m := by
  have e1 : sgn true m = if m < 9223372036854775808 then -m else -9223372036854775808 := rfl
  have e2 : sgn true m' = if m' < 9223372036854775808 then -m' else -9223372036854775808 := rfl
  rw [e1, e2]; split <;> split <;> omega
theorem mulF_pos (x k : Int) (hx : 0 ≤ x) (hk : 0 ≤ k) : mulF x k = sgn false (rndFull (x * k / 4294967296) (x * k % 4294967296) 4294967296) := by
  unfold mulF
  rw [mag_pos x hx, mag_pos k hk, decide_eq_false (show ¬ x < 0 by omega), decide_eq_false (show ¬ k < 0 by omega)]
  rfl
theorem mulF_neg (x k : Int) (hx : x < 0) (hk : 0 ≤ k) : mulF x k = sgn true (rndFull (-x * k / 4294967296) (-x * k % 4294967296) 4294967296) := by
  unfold mulF
  rw [mag_neg x hx, mag_pos k hk, decide_eq_true hx, decide_eq_false (show ¬ k < 0 by omega)]
  rfl
theorem rnd_zero : rndFull ((0 : Int) / 4294967296) (0 % 4294967296) 4294967296 = 0 := by decide +kernel
theorem mulF_mono (x y k : Int) (h : x ≤ y) (hk : 0 ≤ k) : mulF x k ≤ mulF y k := by
  by_cases hx : 0 ≤ x
  · rw [mulF_pos x k hx hk, mulF_pos y k (by omega) hk]
    exact sgn_mono (rnd_mono (Int.mul_le_mul_of_nonneg_right h hk))
  · by_cases hy : 0 ≤ y
    · rw [mulF_neg x k (by omega) hk, mulF_pos y k hy hk]
      have h1 := rnd_mono (Int.mul_nonneg (show 0 ≤ -x by omega) hk)
      have h2 := rnd_mono (Int.mul_nonneg hy hk)
      rw [rnd_zero] at h1 h2
      have h3 := sgn_anti h1
      have h4 := sgn_mono h2
      have e1 : sgn true 0 = 0 := by decide +kernel
      have e2 : sgn false 0 = 0 := by decide +kernel
      rw [e1] at h3
      rw [e2] at h4
      omega
    · rw [mulF_neg x k (by omega) hk, mulF_neg y k (by omega) hk]
      exact sgn_anti (rnd_mono (Int.mul_le_mul_of_nonneg_right (by omega) hk))
theorem sat_mono {a b : Int} (h : a ≤ b) : sat a ≤ sat b := by
  unfold sat
  split <;> (try split) <;> (try split) <;> (try split) <;> omega
theorem held_int (a : Int) : heldF (mag a * 4294967296 % 18446744073709551616) (decide (4294967296 ≤ mag a)) (decide (a < 0)) = sat (a * 4294967296) := by
  have hm : mag a = if a < 0 then -a else a := rfl
  by_cases c : 4294967296 ≤ mag a
  · rw [decide_eq_true c, heldF_true, sgn_big _ _ (by omega)]
    by_cases ha : a < 0
    · rw [decide_eq_true ha, sat_lo _ (by rw [if_pos ha] at hm; omega)]; rfl
    · rw [decide_eq_false ha, sat_hi _ (by rw [if_neg ha] at hm; omega)]; rfl
  · rw [decide_eq_false c, heldF_false]
    by_cases ha : a < 0
    · rw [decide_eq_true ha]
      rw [if_pos ha] at hm
      rw [hm] at c ⊢
      have e1 : sgn true (-a * 4294967296 % 18446744073709551616) = if -a * 4294967296 % 18446744073709551616 < 9223372036854775808 then -(-a * 4294967296 % 18446744073709551616) else -9223372036854775808 := rfl
      rw [e1]; unfold sat
      split <;> split <;> (try split) <;> omega
    · rw [decide_eq_false ha]
      rw [if_neg ha] at hm
      rw [hm] at c ⊢
      have e1 : sgn false (a * 4294967296 % 18446744073709551616) = if a * 4294967296 % 18446744073709551616 < 9223372036854775808 then (a * 4294967296 % 18446744073709551616) else 9223372036854775807 := rfl
      rw [e1]; unfold sat
      split <;> split <;> (try split) <;> omega
theorem int_floor (a : Int) (h1 : -2147483648 ≤ a) (h2 : a < 2147483648) : sat (a * 4294967296) / 4294967296 = a := by
  rw [sat_in _ (by omega) (by omega)]; omega

end Go.Proofs.Ytlpecdfiagklpaa
