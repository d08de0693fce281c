/-
  Package safe, Isqrt: the root by bits, and its contract.
-/
import Derived.Test.YtofekhkggojpnaaSafeG
import Derived.Laws.BitsLemmas
import Derived.IntWalk
namespace Go.Proofs.Ytofekhkggojpnaa
open Go.RowKit
set_option linter.unusedVariables false
set_option linter.unusedSimpArgs false

/-- The root by bits: the bits below k are still to be tried. -/
def rootStep (n : Int) : Nat → Int → Int
  | 0, x => x
  | k + 1, x => rootStep n k (if (x + 2 ^ k) * (x + 2 ^ k) ≤ n then x + 2 ^ k else x)
def rootI (n : Int) : Int := rootStep n 32 0

theorem rootStep_spec (n : Int) (k : Nat) (x : Int) (h0 : 0 ≤ x) (h1 : x * x ≤ n) (h2 : n < (x + 2 ^ k) * (x + 2 ^ k)) :
    0 ≤ rootStep n k x ∧ rootStep n k x * rootStep n k x ≤ n ∧ n < (rootStep n k x + 1) * (rootStep n k x + 1) := by
  induction k generalizing x with
  | zero => exact ⟨h0, h1, by simpa [rootStep] using h2⟩
  | succ k ih =>
    have hp : (0 : Int) < 2 ^ k := Int.pow_pos (by omega)
    unfold rootStep
    split
    · rename_i c
      refine ih _ (by omega) c ?_
      rw [show x + 2 ^ k + 2 ^ k = x + 2 ^ (k + 1) from by rw [Int.pow_succ]; omega]
      exact h2
    · rename_i c
      exact ih _ h0 h1 (by omega)
theorem rootStep_nought (n : Int) (k : Nat) (h : n < 1) : rootStep n k 0 = 0 := by
  induction k with
  | zero => rfl
  | succ k ih =>
    have hp : (0 : Int) < 2 ^ k := Int.pow_pos (by omega)
    have h2 := Int.mul_le_mul (show (1 : Int) ≤ 2 ^ k by omega) (show (1 : Int) ≤ 2 ^ k by omega) (by omega) (by omega)
    unfold rootStep
    rw [if_neg (by rw [Int.zero_add]; omega)]
    exact ih
theorem rootI_nought (n : Int) (h : n < 1) : rootI n = 0 := rootStep_nought n 32 h
theorem rootI_spec (n : Int) (h1 : 0 ≤ n) (h2 : n ≤ 9223372036854775807) : 0 ≤ rootI n ∧ rootI n * rootI n ≤ n ∧ n < (rootI n + 1) * (rootI n + 1) :=
  rootStep_spec n 32 0 (by omega) (by omega) (by rw [show ((0 : Int) + 2 ^ 32) * (0 + 2 ^ 32) = 18446744073709551616 from by decide]; omega)

theorem tdiv_neg_le (n y : Int) (h : n < 0) (hl : -9223372036854775808 ≤ n) (hy : 1 ≤ y) : n.tdiv y ≤ 0 := by
  have e : n.tdiv y = -((-n) / y) := by
    have h1 := Int.neg_tdiv (a := -n) (b := y)
    rw [Int.neg_neg] at h1
    rw [h1, Int.tdiv_eq_ediv_of_nonneg (by omega)]
  have q0 : 0 ≤ (-n) / y := Int.ediv_nonneg (by omega) (by omega)
  rw [e]
  omega

/-- The bit k joined to x. -/
theorem bit_join (x : Int) (k : Nat) (hk : k < 32) (h0 : 0 ≤ x) (h1 : x + 2 ^ (k + 1) ≤ 4294967296) (hm : x % 2 ^ (k + 1) = 0) : bits .or .i64 x (wrap64 (2 ^ k)) = x + 2 ^ k := by
  have hp : (0 : Int) < 2 ^ k := Int.pow_pos (by omega)
  have hs : (2 : Int) ^ (k + 1) = 2 ^ k * 2 := Int.pow_succ _ _
  have hw : wrap64 (2 ^ k) = 2 ^ k := by unfold wrap64; omega
  rw [hw]
  exact bits_join .i64 63 (by decide) (by intro n a b; rw [IntKind.wrap_i64]; omega) (k + 1) x (2 ^ k) h0 hm (by omega) (by omega) (by omega) (by omega)

theorem mod_next (x : Int) (k : Nat) (hm : x % 2 ^ (k + 1) = 0) : x % 2 ^ k = 0 ∧ (x + 2 ^ k) % 2 ^ k = 0 := by
  have hs : (2 : Int) ^ (k + 1) = 2 ^ k * 2 := Int.pow_succ _ _
  have hd : (2 : Int) ^ k ∣ x := by
    have := Int.dvd_of_emod_eq_zero hm
    rw [hs] at this
    exact Int.dvd_trans (Int.dvd_mul_right _ _) this
  refine ⟨Int.emod_eq_zero_of_dvd hd, ?_⟩
  rw [Int.add_emod_right]
  exact Int.emod_eq_zero_of_dvd hd

set_option maxHeartbeats 1000000 in
theorem isqrt_any (n : Int) (w : World) (h1 : -9223372036854775808 ≤ n) (h2 : n ≤ 9223372036854775807) :
    Calls Try.prog 18 #[.int .i64 n] w fun e w' => e = .returned (.int .i64 (rootI n)) ∧ w = w' := by
  go_enter Try.func18, Try.ntmps18
  go_wp2_with fail
  go_loop [3, 4] (fun r i => ∃ k : Nat, ∃ x : Int, k ≤ 32 ∧ i = .int .i64 (k - 1 : Int) ∧ r = .int .i64 x ∧ 0 ≤ x ∧ Hid (x + 2 ^ k ≤ 4294967296 ∧ x % 2 ^ k = 0 ∧ rootStep n k x = rootI n)) (fun _ i => (intOf i + 1).toNat)
  case atStart => exact ⟨32, 0, by omega, rfl, rfl, by omega, by show _ ∧ _; exact ⟨by decide, by decide, rfl⟩⟩
  case round =>
    obtain ⟨k, x, hk, rfl, rfl, x1, hx⟩ := hrel
    rcases k with _ | k
    · have e : Hid (x = rootI n) := hx.out.2.2
      clear hx
      go_wp2_with fail
      go_ret
      exact ⟨ret_int e.out, rfl⟩
    · have e : ((k + 1 : Nat) : Int) - 1 = k := by omega
      rw [e]
      clear e
      obtain ⟨a1, a2, a3⟩ := hx.out
      clear hx
      have hp : (0 : Int) < 2 ^ k := Int.pow_pos (by omega)
      have hs : (2 : Int) ^ (k + 1) = 2 ^ k * 2 := Int.pow_succ _ _
      have hj := bit_join x k (by omega) x1 a1 a2
      obtain ⟨m1, m2⟩ := mod_next x k a2
      unfold rootStep at a3
      by_cases c : (x + 2 ^ k) * (x + 2 ^ k) ≤ n
      · rw [if_pos c] at a3
        have G : Hid (x + 2 ^ k + 2 ^ k ≤ 4294967296 ∧ (x + 2 ^ k) % 2 ^ k = 0 ∧ rootStep n k (x + 2 ^ k) = rootI n) := ⟨by omega, m2, a3⟩
        have y1 : 1 ≤ x + 2 ^ k := by omega
        have y2 : x + 2 ^ k ≤ 4294967296 := by omega
        clear hp hs a1 a2 a3 m1 m2 
        generalize hy : x + 2 ^ k = y at *
        clear hy
        have n0 : 0 ≤ n := by have := Int.mul_le_mul y1 y1 (by omega) (by omega); omega
        have t : y ≤ n / y := (Int.le_ediv_iff_mul_le (by omega)).2 c
        clear c
        go_wp2_with fail
        go_round
        case rel => exact ⟨k, y, by omega, by go_num, rfl, by omega, G⟩
        case measure => (simp [intOf]; try omega)
      · rw [if_neg c] at a3
        have G : Hid (x + 2 ^ k ≤ 4294967296 ∧ x % 2 ^ k = 0 ∧ rootStep n k x = rootI n) := ⟨by omega, m1, a3⟩
        obtain ⟨y, hy⟩ : ∃ y, x + 2 ^ k = y := ⟨_, rfl⟩
        rw [hy] at hj c
        have y1 : 1 ≤ y := by omega
        have y2 : y ≤ 4294967296 := by omega
        clear hp hs a1 a2 a3 m1 m2 hy
        by_cases n0 : 0 ≤ n
        · have t : n / y < y := (Int.ediv_lt_iff_lt_mul (by omega)).2 (by omega)
          clear c
          go_wp2_with fail
          go_round
          case rel => exact ⟨k, x, by omega, by go_num, rfl, by omega, G⟩
          case measure => (simp [intOf]; try omega)
        · have t := tdiv_neg_le n y (by omega) h1 y1
          clear c
          go_wp2_with fail
          go_round
          case rel => exact ⟨k, x, by omega, by go_num, rfl, by omega, G⟩
          case measure => (simp [intOf]; try omega)
end Go.Proofs.Ytofekhkggojpnaa
