/-
  Plain mathematics of saturating fixed-point numbers: rounding to the nearest, ties to even; saturation. No program is named here.
-/
namespace Go.Proofs.Ytlpecdfiagklpaa
set_option linter.unusedVariables false
set_option linter.unusedSimpArgs false

/-- The magnitude. -/
def mag (x : Int) : Int := if x < 0 then -x else x
theorem mag_bounds (x : Int) (h1 : -9223372036854775808 ≤ x) (h2 : x ≤ 9223372036854775807) : 0 ≤ mag x ∧ mag x ≤ 9223372036854775808 := by
  unfold mag; split <;> omega
theorem mag_neg (x : Int) (h : x < 0) : mag x = -x := by unfold mag; rw [if_pos h]
theorem mag_pos (x : Int) (h : 0 ≤ x) : mag x = x := by unfold mag; rw [if_neg (by omega)]

/-- The number with a sign and a magnitude, saturated. -/
def sgn (neg : Bool) (m : Int) : Int :=
  if m < 9223372036854775808 then (if neg then -m else m) else if neg then -9223372036854775808 else 9223372036854775807

/-- Rounding up is due: the rest is more than half of the unit, or just half and the whole is odd. -/
def up (whole rest unit : Int) : Bool := decide (unit < 2 * rest) || (decide (unit = 2 * rest) && decide (whole % 2 = 1))

/-- Rounded to the nearest, ties to even; what is at least 2^63 stays as it is. -/
def rnd (whole rest unit : Int) : Int := if up whole rest unit = true ∧ whole < 9223372036854775808 then whole + 1 else whole

/-- Rounded without the cap. -/
def rndFull (whole rest unit : Int) : Int := if up whole rest unit = true then whole + 1 else whole

theorem sgn_rnd (neg : Bool) (whole rest unit : Int) : sgn neg (rnd whole rest unit) = sgn neg (rndFull whole rest unit) := by
  unfold rnd rndFull
  by_cases hu : up whole rest unit = true
  · by_cases hw : whole < 9223372036854775808
    · simp [hu, hw]
    · have h2 : ¬ whole + 1 < 9223372036854775808 := by omega
      simp [hu, hw, sgn, h2]
  · simp [hu]

theorem sgn_bounds (neg : Bool) (m : Int) (h : 0 ≤ m) : -9223372036854775808 ≤ sgn neg m ∧ sgn neg m ≤ 9223372036854775807 := by
  unfold sgn
  split <;> split <;> omega
theorem sgn_big (neg : Bool) (m : Int) (h : 9223372036854775808 ≤ m) : sgn neg m = if neg then -9223372036854775808 else 9223372036854775807 := by
  unfold sgn; rw [if_neg (by omega)]

/-- Saturation. -/
def sat (z : Int) : Int := if z < -9223372036854775808 then -9223372036854775808 else if 9223372036854775807 < z then 9223372036854775807 else z

theorem sat_bounds (z : Int) : -9223372036854775808 ≤ sat z ∧ sat z ≤ 9223372036854775807 := by
  unfold sat
  split
  · omega
  · split <;> omega
theorem sat_in (z : Int) (h1 : -9223372036854775808 ≤ z) (h2 : z ≤ 9223372036854775807) : sat z = z := by
  unfold sat; rw [if_neg (by omega), if_neg (by omega)]
theorem sat_hi (z : Int) (h2 : 9223372036854775807 ≤ z) : sat z = 9223372036854775807 := by
  unfold sat; rw [if_neg (by omega)]; split <;> omega
theorem sat_lo (z : Int) (h2 : z ≤ -9223372036854775808) : sat z = -9223372036854775808 := by
  unfold sat; split
  · rfl
  · rw [if_neg (by omega)]; omega

/-- The product of two numbers. -/
def mulF (x y : Int) : Int := sgn (decide (x < 0) != decide (y < 0)) (rndFull (mag x * mag y / 4294967296) (mag x * mag y % 4294967296) 4294967296)

/-- The quotient of two numbers. -/
def divF (x y : Int) : Int :=
  if x = 0 then 0
  else if y = 0 then (if x < 0 then -9223372036854775808 else 9223372036854775807)
  else sgn (decide (x < 0) != decide (y < 0)) (rndFull (mag x * 4294967296 / mag y) (mag x * 4294967296 % mag y) (mag y))

theorem mulF_bounds (x y : Int) : -9223372036854775808 ≤ mulF x y ∧ mulF x y ≤ 9223372036854775807 := by
  apply sgn_bounds
  have hx : 0 ≤ mag x := by unfold mag; split <;> omega
  have hy : 0 ≤ mag y := by unfold mag; split <;> omega
  have h : 0 ≤ mag x * mag y := Int.mul_nonneg hx hy
  unfold rndFull
  split <;> omega
theorem divF_bounds (x y : Int) : -9223372036854775808 ≤ divF x y ∧ divF x y ≤ 9223372036854775807 := by
  unfold divF
  split
  · omega
  · split
    · split <;> omega
    · apply sgn_bounds
      have hx : 0 ≤ mag x * 4294967296 := by unfold mag; split <;> omega
      have hy : 0 ≤ mag y := by unfold mag; split <;> omega
      have h : 0 ≤ mag x * 4294967296 / mag y := Int.ediv_nonneg hx hy
      unfold rndFull
      split <;> omega

/-- The magnitude of a product, rounded; 2^63 if it is far too great. -/
def prodF (a b : Int) : Int := if a * b < 79228162514264337593543950336 then rnd (a * b / 4294967296) (a * b % 4294967296) 4294967296 else 9223372036854775808

theorem sgn_prodF (neg : Bool) (a b : Int) : sgn neg (prodF a b) = sgn neg (rndFull (a * b / 4294967296) (a * b % 4294967296) 4294967296) := by
  unfold prodF
  by_cases h : a * b < 79228162514264337593543950336
  · rw [if_pos h, sgn_rnd]
  · rw [if_neg h, sgn_big _ _ (by omega), sgn_big _ _ (by unfold rndFull; split <;> omega)]
theorem prodF_bounds (a b : Int) (h : 0 ≤ a * b) : 0 ≤ prodF a b ∧ prodF a b < 18446744073709551616 := by
  unfold prodF rnd
  split
  · split <;> omega
  · omega

/-- Within bounds; the upper one is compared first. -/
def clampF (x lo hi : Int) : Int := if hi < x then hi else if x < lo then lo else x

/-- A magnitude with a sign; beyond all bounds if over is true. -/
def heldF (n : Int) (over neg : Bool) : Int := sgn neg (if over = true then 9223372036854775808 else n)
theorem heldF_false (n : Int) (neg : Bool) : heldF n false neg = sgn neg n := rfl
theorem heldF_true (n : Int) (neg : Bool) : heldF n true neg = sgn neg 9223372036854775808 := rfl

/-- The magnitude of a quotient, rounded; 2^63 if it is far too great. -/
def quoF (a b : Int) : Int := if a / 4294967296 < b then rnd (a * 4294967296 / b) (a * 4294967296 % b) b else 9223372036854775808

theorem quoF_bounds (a b : Int) (ha : 0 ≤ a) : 0 ≤ quoF a b ∧ (0 ≤ b → quoF a b < 18446744073709551616) := by
  unfold quoF
  by_cases h : a / 4294967296 < b
  · rw [if_pos h]
    have h1 : 0 ≤ a * 4294967296 / b := Int.ediv_nonneg (by omega) (by omega)
    have h2 : a * 4294967296 / b < 18446744073709551616 := by
      rw [Int.ediv_lt_iff_lt_mul (by omega)]; omega
    unfold rnd
    split <;> exact ⟨by omega, fun _ => by omega⟩
  · rw [if_neg h]; exact ⟨by omega, fun _ => by omega⟩

theorem sgn_quoF (neg : Bool) (a b : Int) (ha : 0 ≤ a) (hb : 0 < b) : sgn neg (quoF a b) = sgn neg (rndFull (a * 4294967296 / b) (a * 4294967296 % b) b) := by
  unfold quoF
  by_cases h : a / 4294967296 < b
  · rw [if_pos h, sgn_rnd]
  · rw [if_neg h, sgn_big _ _ (by omega)]
    have h1 : 9223372036854775808 ≤ a * 4294967296 / b := by
      rw [Int.le_ediv_iff_mul_le hb]; omega
    rw [sgn_big _ _ (by unfold rndFull; split <;> omega)]
theorem sgn_quoF_zero (neg : Bool) (a : Int) (ha : 0 ≤ a) : sgn neg (quoF a 0) = if neg then -9223372036854775808 else 9223372036854775807 := by
  unfold quoF
  rw [if_neg (by omega), sgn_big _ _ (by omega)]
theorem divF_eq (x y : Int) (hx : x ≠ 0) : sgn (decide (x < 0) != decide (y < 0)) (quoF (mag x) (mag y)) = divF x y := by
  have mx : 0 ≤ mag x := by unfold mag; split <;> omega
  unfold divF
  rw [if_neg hx]
  by_cases hy : y = 0
  · subst hy
    have e : mag 0 = 0 := rfl
    rw [if_pos rfl, e, sgn_quoF_zero _ _ mx]
    by_cases c : x < 0
    · simp [c]
    · simp [c]
  · rw [if_neg hy, sgn_quoF _ _ _ mx (by unfold mag; split <;> omega)]

end Go.Proofs.Ytlpecdfiagklpaa
