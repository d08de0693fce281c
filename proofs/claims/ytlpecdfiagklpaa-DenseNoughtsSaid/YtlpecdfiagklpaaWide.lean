/-
  Plain mathematics of two-word products and quotients: the school method of multiplying, and of dividing by two halves.
-/
import Derived.Laws.Bits64b
namespace Go.Proofs.Ytlpecdfiagklpaa
set_option linter.unusedVariables false
set_option linter.unusedSimpArgs false

theorem wrap64u (n : Int) : IntKind.u64.wrap n = n % 18446744073709551616 := IntKind.wrap_u64 n
theorem wrap64u_in (n : Int) (h0 : 0 ≤ n) (h1 : n < 18446744073709551616) : IntKind.u64.wrap n = n := by rw [IntKind.wrap_u64]; omega

theorem and32 (a : Int) (h0 : 0 ≤ a) (h1 : a < 18446744073709551616) : bits .and .u64 a 4294967295 = a % 4294967296 := by
  obtain ⟨n, rfl⟩ := Int.eq_ofNat_of_zero_le h0
  have h := bits_and_u64_nat n 4294967295 (by omega) (by omega)
  have e : n &&& 4294967295 = n % 4294967296 := Nat.and_two_pow_sub_one_eq_mod n 32
  rw [e] at h
  exact h

theorem and1 (a : Int) (h0 : 0 ≤ a) (h1 : a < 18446744073709551616) : bits .and .u64 a 1 = a % 2 := by
  obtain ⟨n, rfl⟩ := Int.eq_ofNat_of_zero_le h0
  have h := bits_and_u64_nat n 1 (by omega) (by omega)
  have e : n &&& 1 = n % 2 := Nat.and_one_is_mod n
  rw [e] at h
  exact h

theorem prod_le {a b A B : Int} (ha : 0 ≤ a) (hb : 0 ≤ b) (hA : a ≤ A) (hB : b ≤ B) : 0 ≤ a * b ∧ a * b ≤ A * B :=
  ⟨Int.mul_nonneg ha hb, Int.mul_le_mul hA hB hb (by omega)⟩

theorem half_prod {a b : Int} (ha : 0 ≤ a) (hb : 0 ≤ b) (hA : a ≤ 4294967295) (hB : b ≤ 4294967295) : 0 ≤ a * b ∧ a * b ≤ 18446744065119617025 := by
  have h := prod_le ha hb hA hB
  omega

theorem split_prod (x1 x0 y1 y0 : Int) : (x1 * 4294967296 + x0) * (y1 * 4294967296 + y0) = x1 * y1 * 18446744073709551616 + (x1 * y0 + x0 * y1) * 4294967296 + x0 * y0 := by
  have e1 : x1 * 4294967296 * (y1 * 4294967296) = x1 * y1 * 18446744073709551616 := by
    have h : (18446744073709551616 : Int) = 4294967296 * 4294967296 := rfl
    rw [h]
    generalize (4294967296 : Int) = K
    ac_rfl
  have e2 : x1 * 4294967296 * y0 = x1 * y0 * 4294967296 := Int.mul_right_comm _ _ _
  have e3 : x0 * (y1 * 4294967296) = x0 * y1 * 4294967296 := (Int.mul_assoc _ _ _).symm
  rw [Int.add_mul, Int.mul_add, Int.mul_add, e1, e2, e3]
  omega

/-- The upper word of a product by halves. -/
theorem mul_hi (x y : Int) :
    x / 4294967296 * (y / 4294967296) + (x / 4294967296 * (y % 4294967296) + x % 4294967296 * (y % 4294967296) / 4294967296) / 4294967296 +
      ((x / 4294967296 * (y % 4294967296) + x % 4294967296 * (y % 4294967296) / 4294967296) % 4294967296 + x % 4294967296 * (y / 4294967296)) / 4294967296 = x * y / 18446744073709551616 := by
  have e : x * y = (x / 4294967296) * (y / 4294967296) * 18446744073709551616 + ((x / 4294967296) * (y % 4294967296) + (x % 4294967296) * (y / 4294967296)) * 4294967296 + (x % 4294967296) * (y % 4294967296) := by
    rw [← split_prod]
    congr 1 <;> omega
  rw [e]
  generalize (x / 4294967296) * (y / 4294967296) = a at *
  generalize (x / 4294967296) * (y % 4294967296) = b at *
  generalize (x % 4294967296) * (y / 4294967296) = c at *
  generalize (x % 4294967296) * (y % 4294967296) = d at *
  omega

theorem or_parts (h l : Int) (h0 : 0 ≤ h) (h1 : h < 4294967296) (l0 : 0 ≤ l) (l1 : l < 4294967296) : bits .or .u64 (h * 4294967296) l = h * 4294967296 + l := by
  obtain ⟨n, rfl⟩ := Int.eq_ofNat_of_zero_le h0
  obtain ⟨m, rfl⟩ := Int.eq_ofNat_of_zero_le l0
  have e := bits_or_u64_nat (n * 4294967296) m (by omega) (by omega)
  have f : n * 4294967296 ||| m = n * 4294967296 + m := by
    have g := Nat.shiftLeft_add_eq_or_of_lt (i := 32) (b := m) (by omega) n
    rw [Nat.shiftLeft_eq] at g
    exact g.symm
  rw [f] at e
  simp only [Int.natCast_add, Int.natCast_mul] at e
  exact e

/-- The middle two halves of a two-word number. -/
theorem or_mid (P : Int) (h0 : 0 ≤ P) (h1 : P < 79228162514264337593543950336) :
    bits .or .u64 (P / 18446744073709551616 * 4294967296) (P % 18446744073709551616 / 4294967296) = P / 4294967296 := by
  rw [or_parts _ _ (by omega) (by omega) (by omega) (by omega)]
  omega

theorem or_even (h c : Int) (h0 : 0 ≤ h) (h1 : h < 9223372036854775808) (c0 : 0 ≤ c) (c1 : c < 2) : bits .or .u64 (h * 2) c = h * 2 + c := by
  obtain ⟨n, rfl⟩ := Int.eq_ofNat_of_zero_le h0
  obtain ⟨m, rfl⟩ := Int.eq_ofNat_of_zero_le c0
  have e := bits_or_u64_nat (n * 2) m (by omega) (by omega)
  have f : n * 2 ||| m = n * 2 + m := by
    have g := Nat.shiftLeft_add_eq_or_of_lt (i := 1) (b := m) (by omega) n
    rw [Nat.shiftLeft_eq] at g
    exact g.symm
  rw [f] at e
  simp only [Int.natCast_add, Int.natCast_mul] at e
  exact e

/-- The bits of b from bit n on. -/
def topBits (b : Int) (n : Nat) : Int := b / 2 ^ n
theorem topBits_zero (b : Int) : topBits b 0 = b := by unfold topBits; simp
theorem topBits_half (b : Int) (n : Nat) : topBits b (n + 1) = topBits b n / 2 := by
  unfold topBits
  have h : (2 : Int) ^ (n + 1) = 2 ^ n * 2 := Int.pow_succ 2 n
  have hp : (0 : Int) ≤ 2 ^ n := Int.le_of_lt (Int.pow_pos (by omega))
  rw [h, Int.ediv_ediv_of_nonneg hp]
theorem topBits_nonneg (b : Int) (n : Nat) (h : 0 ≤ b) : 0 ≤ topBits b n := by
  unfold topBits
  exact Int.ediv_nonneg h (Int.le_of_lt (Int.pow_pos (by omega)))
theorem topBits_le (b : Int) (n : Nat) (h : 0 ≤ b) : topBits b n ≤ b := by
  induction n with
  | zero => rw [topBits_zero]; omega
  | succ n ih => rw [topBits_half]; have := topBits_nonneg b n h; omega
theorem topBits_le_half (b : Int) (n : Nat) (h : 0 ≤ b) : topBits b (n + 1) ≤ b / 2 := by
  have := topBits_le b n h
  rw [topBits_half]; omega
theorem topBits_top (b : Int) (n : Nat) (h : 0 ≤ b) (hb : b < 2 ^ n) : topBits b n = 0 := by
  unfold topBits
  exact Int.ediv_eq_zero_of_lt h hb
theorem topBits_split (b : Int) (n : Nat) : topBits b n = 2 * topBits b (n + 1) + topBits b n % 2 := by
  rw [topBits_half]; omega
theorem mul_topBits (a b : Int) (n : Nat) : a * topBits b n = a * topBits b (n + 1) * 2 + a * (topBits b n % 2) := by
  have h : a * topBits b n = a * (2 * topBits b (n + 1) + topBits b n % 2) := by rw [← topBits_split]
  rw [h, Int.mul_add, Int.mul_comm 2, Int.mul_assoc]

theorem or_mid_wrap (P : Int) (h0 : 0 ≤ P) :
    bits .or .u64 (IntKind.u64.wrap (P / 18446744073709551616 * 4294967296)) (P % 18446744073709551616 / 4294967296) = P / 4294967296 % 18446744073709551616 := by
  rw [wrap64u]
  have e : P / 18446744073709551616 * 4294967296 % 18446744073709551616 = P / 18446744073709551616 % 4294967296 * 4294967296 := by omega
  rw [e, or_parts _ _ (by omega) (by omega) (by omega) (by omega)]
  omega
theorem low_rest (P : Int) : IntKind.u64.wrap (P % 18446744073709551616 * 4294967296) / 4294967296 = P % 4294967296 := by
  rw [wrap64u]; omega

/-! A digit of a quotient: Y = yh * 2^32 + yl, N = U * 2^32 + c, q * yh + r = U. -/
section
variable {Y yh yl U c q r : Int}
theorem dig_key (hY : Y = yh * 4294967296 + yl) (hq : q * yh + r = U) : q * Y = U * 4294967296 - r * 4294967296 + q * yl := by
  rw [hY, Int.mul_add, ← Int.mul_assoc]; omega
theorem dig_lt (hY0 : 0 < Y) (hU : U < Y) (hc : c < 4294967296) : (U * 4294967296 + c) / Y < 4294967296 := by
  rw [Int.ediv_lt_iff_lt_mul hY0]; omega
theorem dig_big (hY0 : 0 < Y) (hU : U < Y) (hc : c < 4294967296) (h : 4294967296 ≤ q) : (U * 4294967296 + c) / Y ≤ q - 1 := by
  have := dig_lt hY0 hU hc; omega
theorem dig_gt (hY0 : 0 < Y) (hY : Y = yh * 4294967296 + yl) (hq : q * yh + r = U) (h : r * 4294967296 + c < q * yl) : (U * 4294967296 + c) / Y ≤ q - 1 := by
  have k := dig_key hY hq
  have : (U * 4294967296 + c) / Y < q := by rw [Int.ediv_lt_iff_lt_mul hY0]; omega
  omega
theorem dig_le (hY0 : 0 < Y) (hY : Y = yh * 4294967296 + yl) (hq : q * yh + r = U) (h : q * yl ≤ r * 4294967296 + c) : q ≤ (U * 4294967296 + c) / Y := by
  have k := dig_key hY hq
  rw [Int.le_ediv_iff_mul_le hY0]; omega
theorem dig_break (hY0 : 0 < Y) (hY : Y = yh * 4294967296 + yl) (hq : q * yh + r = U) (hl0 : 0 ≤ yl) (hl : yl < 4294967296) (hc : 0 ≤ c) (q0 : 0 ≤ q) (q1 : q < 4294967296) (h : 4294967296 ≤ r) : q ≤ (U * 4294967296 + c) / Y := by
  refine dig_le hY0 hY hq ?_
  have := (prod_le q0 hl0 (show q ≤ 4294967295 by omega) (show yl ≤ 4294967295 by omega)).2
  omega
theorem dig_nobreak (hY : Y = yh * 4294967296 + yl) (hU : U < Y) (hq : q * yh + r = U) (hl : yl < 4294967296) (hh : 0 ≤ yh) (h : 4294967296 ≤ q) : r < 4294967296 := by
  have := Int.mul_le_mul_of_nonneg_right h hh
  omega
theorem dig_start (hY0 : 0 < Y) (hY : Y = yh * 4294967296 + yl) (hh : 0 < yh) (hl0 : 0 ≤ yl) (hc : c < 4294967296) (hU0 : 0 ≤ U) : (U * 4294967296 + c) / Y ≤ U / yh := by
  rw [Int.le_ediv_iff_mul_le hh]
  have h1 : (U * 4294967296 + c) / Y * Y ≤ U * 4294967296 + c := Int.ediv_mul_le _ (by omega)
  generalize (U * 4294967296 + c) / Y = d at *
  by_cases hd : 0 ≤ d
  · have h2 := Int.mul_nonneg hd hl0
    rw [hY, Int.mul_add, ← Int.mul_assoc] at h1
    omega
  · have h2 := Int.mul_nonneg (show 0 ≤ -d by omega) (Int.le_of_lt hh)
    rw [Int.neg_mul] at h2
    omega
theorem dig_rest (hh : 0 < yh) : U / yh * yh + (U - U / yh * yh) = U ∧ 0 ≤ U - U / yh * yh ∧ U - U / yh * yh < yh ∧ U / yh * yh ≤ U := by
  have h1 := Int.emod_nonneg U (show yh ≠ 0 by omega)
  have h2 := Int.emod_lt_of_pos U hh
  have h3 := Int.ediv_mul_add_emod U yh
  omega
end

theorem pow_pos2 (n : Nat) : (0 : Int) < 2 ^ n := Int.pow_pos (by omega)

theorem or_pow (h c : Int) (s : Nat) (h0 : 0 ≤ h) (c0 : 0 ≤ c) (c1 : c < 2 ^ s) (hb : h * 2 ^ s + c < 18446744073709551616) : bits .or .u64 (h * 2 ^ s) c = h * 2 ^ s + c := by
  obtain ⟨n, rfl⟩ := Int.eq_ofNat_of_zero_le h0
  obtain ⟨m, rfl⟩ := Int.eq_ofNat_of_zero_le c0
  have hT : ((2 ^ s : Nat) : Int) = (2 : Int) ^ s := by simp
  have c1' : m < 2 ^ s := by rw [← hT] at c1; omega
  have hb' : n * 2 ^ s + m < 18446744073709551616 := by
    have e : ((n * 2 ^ s + m : Nat) : Int) = (n : Int) * 2 ^ s + (m : Int) := by rw [Int.natCast_add, Int.natCast_mul, hT]
    omega
  have g := Nat.shiftLeft_add_eq_or_of_lt c1' n
  rw [Nat.shiftLeft_eq] at g
  have e := bits_or_u64_nat (n * 2 ^ s) m (by omega) (by omega)
  rw [← g] at e
  rw [Int.natCast_add, Int.natCast_mul, hT] at e
  exact e

/-- Both words of the dividend, shifted until the divisor's first bit is set. -/
theorem norm_spec (hi lo y : Int) (s : Nat) (hs : s ≤ 63) (h0 : 0 ≤ hi) (hy : hi < y) (l0 : 0 ≤ lo) (l1 : lo < 18446744073709551616) (hY : y * 2 ^ s < 18446744073709551616) :
    0 ≤ hi * 2 ^ s ∧ hi * 2 ^ s + lo / 2 ^ (64 - s) < y * 2 ^ s ∧ 0 ≤ lo / 2 ^ (64 - s) ∧
    bits .or .u64 (hi * 2 ^ s) (lo / 2 ^ (64 - s)) = hi * 2 ^ s + lo / 2 ^ (64 - s) ∧
    (hi * 2 ^ s + lo / 2 ^ (64 - s)) * 18446744073709551616 + IntKind.u64.wrap (lo * 2 ^ s) = (hi * 18446744073709551616 + lo) * 2 ^ s := by
  have hp : (2 : Int) ^ (64 - s) * 2 ^ s = 18446744073709551616 := by
    rw [← Int.pow_add, show 64 - s + s = 64 from by omega]; rfl
  have t0 := pow_pos2 s
  have t1 := pow_pos2 (64 - s)
  have hor := or_pow hi (lo / 2 ^ (64 - s)) s h0
  generalize (2 : Int) ^ s = T at *
  generalize (2 : Int) ^ (64 - s) = V at *
  have a0 : 0 ≤ lo / V := Int.ediv_nonneg l0 (by omega)
  have a1 : lo / V < T := by rw [Int.ediv_lt_iff_lt_mul t1, Int.mul_comm, hp]; exact l1
  have m0 : 0 ≤ hi * T := Int.mul_nonneg h0 (by omega)
  have m1 : (hi + 1) * T ≤ y * T := Int.mul_le_mul_of_nonneg_right (by omega) (by omega)
  rw [Int.add_mul, Int.one_mul] at m1
  refine ⟨m0, by omega, a0, hor a0 a1 (by omega), ?_⟩
  have d := Int.ediv_mul_add_emod lo V
  have d0 := Int.emod_nonneg lo (show V ≠ 0 by omega)
  have d1 := Int.emod_lt_of_pos lo t1
  have e1 : lo * T = lo / V * 18446744073709551616 + lo % V * T := by
    rw [← hp, ← Int.mul_assoc, ← Int.add_mul, d]
  have e2 : lo % V * T < 18446744073709551616 := by
    rw [← hp]; exact Int.mul_lt_mul_of_pos_right d1 t0
  have e3 : 0 ≤ lo % V * T := Int.mul_nonneg d0 (by omega)
  rw [wrap64u, Int.add_mul, Int.add_mul (hi * 18446744073709551616), Int.mul_right_comm hi]
  omega

/-- Two digits make the quotient; the rest, shifted back, is the remainder. -/
theorem two_digits (M y T U W : Int) (t0 : 0 < T) (y0 : 0 < y) (hM : U * 18446744073709551616 + W = M * T) (w0 : 0 ≤ W) (w1 : W < 18446744073709551616) (a b : Int)
    (ha : a = (U * 4294967296 + W / 4294967296) % (y * T)) (hb : b = (a * 4294967296 + W % 4294967296) / (y * T)) :
    (U * 4294967296 + W / 4294967296) / (y * T) * 4294967296 + b = M / y ∧ (a * 4294967296 + W % 4294967296 - b * (y * T)) / T = M % y := by
  have hY : 0 < y * T := Int.mul_pos y0 t0
  have q1 : M * T / (y * T) = M / y := by rw [Int.mul_comm M, Int.mul_comm y]; exact Int.mul_ediv_mul_of_pos _ _ t0
  have q2 : M * T % (y * T) = T * (M % y) := by rw [Int.mul_comm M, Int.mul_comm y]; exact Int.mul_emod_mul_of_pos _ _ t0
  have d1 := Int.ediv_mul_add_emod (U * 4294967296 + W / 4294967296) (y * T)
  have d2 := Int.ediv_mul_add_emod (a * 4294967296 + W % 4294967296) (y * T)
  have r0 := Int.emod_nonneg (a * 4294967296 + W % 4294967296) (show y * T ≠ 0 by omega)
  have r1 := Int.emod_lt_of_pos (a * 4294967296 + W % 4294967296) hY
  rw [← hb] at d2
  rw [← ha] at d1
  generalize hr : (a * 4294967296 + W % 4294967296) % (y * T) = R at *
  generalize (U * 4294967296 + W / 4294967296) / (y * T) = c at *
  have key : R + y * T * (c * 4294967296 + b) = M * T := by
    rw [Int.mul_add, ← Int.mul_assoc, Int.mul_comm (y * T) c, Int.mul_comm (y * T) b]
    omega
  have u := (Int.ediv_emod_unique hY).2 ⟨key, r0, r1⟩
  rw [q1, q2] at u
  refine ⟨u.1.symm, ?_⟩
  have e : a * 4294967296 + W % 4294967296 - b * (y * T) = T * (M % y) := by rw [u.2]; omega
  rw [e]
  exact Int.mul_ediv_cancel_left _ (by omega)

/-- What a digit leaves, reckoned modulo 2^64. -/
theorem dig_next (U c Y D : Int) (hY0 : 0 < Y) (hY : Y < 18446744073709551616) (hD : (U * 4294967296 + c) / Y = D) :
    IntKind.u64.wrap (IntKind.u64.wrap (IntKind.u64.wrap (U * 4294967296) + c) - IntKind.u64.wrap (D * Y)) = (U * 4294967296 + c) % Y ∧
    (U * 4294967296 + c) % Y = U * 4294967296 + c - D * Y ∧ 0 ≤ (U * 4294967296 + c) % Y ∧ (U * 4294967296 + c) % Y < Y := by
  have h1 := Int.ediv_mul_add_emod (U * 4294967296 + c) Y
  have h2 := Int.emod_nonneg (U * 4294967296 + c) (show Y ≠ 0 by omega)
  have h3 := Int.emod_lt_of_pos (U * 4294967296 + c) hY0
  rw [hD] at h1
  refine ⟨?_, by omega, h2, h3⟩
  rw [wrap64u, wrap64u, wrap64u, wrap64u]
  omega

end Go.Proofs.Ytlpecdfiagklpaa
