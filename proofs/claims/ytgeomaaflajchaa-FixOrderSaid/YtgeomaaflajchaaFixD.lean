/-
  Contracts of package fix: the quotient of two numbers, and ratios of integers.
-/
import Derived.Test.YtgeomaaflajchaaDiv64
namespace Go.Proofs.Ytgeomaaflajchaa
open Go.RowKit
set_option linter.unusedVariables false
set_option linter.unusedSimpArgs false

theorem shl_split (a : Int) (h0 : 0 ≤ a) (h1 : a ≤ 9223372036854775808) : a / 4294967296 * 18446744073709551616 + IntKind.u64.wrap (a * 4294967296) = a * 4294967296 := by
  rw [wrap64u]; omega

set_option maxHeartbeats 1000000 in
theorem quotient_any (a b : Int) (w : World) (a0 : 0 ≤ a) (a1 : a ≤ 9223372036854775808) (b0 : 0 ≤ b) (b1 : b ≤ 9223372036854775808) :
    Calls Try.prog 31 #[.int .u64 a, .int .u64 b] w fun e w' => e = .returned (.int .u64 (quoF a b)) ∧ ∃ n, w' = w.drewN n := by
  by_cases c : b ≤ a / 4294967296
  · have D : Hid (9223372036854775808 = quoF a b) := by unfold quoF; exact (if_neg (by omega)).symm
    go_enter Try.func31, Try.ntmps31
    go_wp2_with fail
    go_ret
    exact ⟨ret_int D.out, 0, rfl⟩
  · have D : Hid (rnd (a * 4294967296 / b) (a * 4294967296 % b) b = quoF a b) := by unfold quoF; exact (if_pos (by omega)).symm
    have hw0 : 0 ≤ IntKind.u64.wrap (a * 4294967296) := by rw [wrap64u]; omega
    have hw1 : IntKind.u64.wrap (a * 4294967296) < 18446744073709551616 := by rw [wrap64u]; omega
    have C := div64_any (a / 4294967296) (IntKind.u64.wrap (a * 4294967296)) b w (by omega) hw0 hw1 (by omega) (by omega)
    rw [shl_split a a0 a1] at C
    have C1 := Lib.hid C; clear C
    have q0 : 0 ≤ a * 4294967296 / b := Int.ediv_nonneg (by omega) b0
    have q1 : a * 4294967296 / b < 18446744073709551616 := by
      rw [Int.ediv_lt_iff_lt_mul (by omega)]; omega
    have r0 : 0 ≤ a * 4294967296 % b := Int.emod_nonneg _ (by omega)
    have r1 : a * 4294967296 % b < b := Int.emod_lt_of_pos _ (by omega)
    generalize a * 4294967296 / b = q at *
    generalize a * 4294967296 % b = r at *
    have C2 := Lib.hid (fun w => rounded_any q r b w q0 r0 (by omega) (by omega) q1)
    clear hw0 hw1
    go_enter Try.func31, Try.ntmps31
    go_wp2_with fail
    refine C1.out.mono ?_
    rintro e w' ⟨rfl, n, rfl⟩
    go_wp2_with fail
    refine (C2.out _).mono ?_
    rintro e w' ⟨rfl, rfl⟩
    go_wp2_with fail
    go_ret
    exact ⟨ret_int D.out, n, rfl⟩

set_option maxHeartbeats 1000000 in
theorem div_any (x y : Int) (w : World) (hx1 : -9223372036854775808 ≤ x) (hx2 : x ≤ 9223372036854775807) (hy1 : -9223372036854775808 ≤ y) (hy2 : y ≤ 9223372036854775807) :
    Calls Try.prog 12 #[.int .i64 x, .int .i64 y] w fun e w' => e = .returned (.int .i64 (divF x y)) ∧ ∃ n, w' = w.drewN n := by
  by_cases c : x = 0
  · subst c
    have D : Hid (0 = divF 0 y) := rfl
    go_enter Try.func12, Try.ntmps12
    go_wp2_with fail
    go_ret
    exact ⟨ret_int D.out, 0, rfl⟩
  · have nx : (x == 0) = false := by rw [beq_eq_false_iff_ne]; exact c
    have D : Hid (sgn (decide (x < 0) != decide (y < 0)) (quoF (mag x) (mag y)) = divF x y) := divF_eq x y c
    obtain ⟨mx0, mx1⟩ := mag_bounds x hx1 hx2
    obtain ⟨my0, my1⟩ := mag_bounds y hy1 hy2
    have C1 := Lib.hid (fun w => magnitude_any x w hx1 hx2)
    have C2 := Lib.hid (fun w => magnitude_any y w hy1 hy2)
    have C3 := Lib.hid (fun w => quotient_any (mag x) (mag y) w mx0 mx1 my0 my1)
    have C4 := Lib.hid (fun w => signed_any (decide (x < 0) != decide (y < 0)) (quoF (mag x) (mag y)) w (quoF_bounds _ _ mx0).1)
    clear mx0 mx1 my0 my1 hx1 hx2 hy1 hy2 c
    go_enter Try.func12, Try.ntmps12
    go_wp2_with fail
    refine (C1.out _).mono ?_
    rintro e w' ⟨rfl, rfl⟩
    go_wp2_with fail
    refine (C2.out _).mono ?_
    rintro e w' ⟨rfl, rfl⟩
    go_wp2_with fail
    refine (C3.out _).mono ?_
    rintro e w' ⟨rfl, n, rfl⟩
    go_wp2_with fail
    refine (C4.out _).mono ?_
    rintro e w' ⟨rfl, rfl⟩
    go_wp2_with fail
    go_ret
    exact ⟨ret_int D.out, n, rfl⟩

set_option maxHeartbeats 1000000 in
theorem ratio_any (x y : Int) (w : World) (hx1 : -9223372036854775808 ≤ x) (hx2 : x ≤ 9223372036854775807) (hy1 : -9223372036854775808 ≤ y) (hy2 : y ≤ 9223372036854775807) :
    Calls Try.prog 20 #[.int .i64 x, .int .i64 y] w fun e w' => e = .returned (.int .i64 (divF x y)) ∧ ∃ n, w' = w.drewN n := by
  have C1 := Lib.hid (fun w => div_any x y w hx1 hx2 hy1 hy2)
  go_enter Try.func20, Try.ntmps20
  go_wp2_with fail
  refine (C1.out _).mono ?_
  rintro e w' ⟨rfl, n, rfl⟩
  go_wp2_with fail
  go_ret
  exact ⟨ret_int rfl, n, rfl⟩
end Go.Proofs.Ytgeomaaflajchaa
