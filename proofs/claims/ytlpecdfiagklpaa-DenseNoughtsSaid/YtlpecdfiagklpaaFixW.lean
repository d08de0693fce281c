/-
  Contracts of package fix: each function's result, for every argument; the world stays as it is.
-/
import Derived.Test.YtlpecdfiagklpaaFixMath
import Derived.Test.YtlpecdfiagklpaaWide
import Derived.Test.YtlpecdfiagklpaaRows
import Derived.Test.YtlpecdfiagklpaaInts
import Derived.WalkKit
import Derived.WalkSpells
import Derived.Lib.Hide
namespace Go.Proofs.Ytlpecdfiagklpaa
open Go.RowKit
set_option linter.unusedVariables false
set_option linter.unusedSimpArgs false

theorem mag_wrap_neg (x : Int) (h1 : -9223372036854775808 ≤ x) (h2 : x < 0) : IntKind.u64.wrap (-IntKind.u64.wrap x) = mag x := by
  rw [wrap64u, wrap64u, mag_neg x h2]; omega
theorem mag_wrap_pos (x : Int) (h1 : 0 ≤ x) (h2 : x ≤ 9223372036854775807) : IntKind.u64.wrap x = mag x := by
  rw [wrap64u, mag_pos x h1]; omega

set_option maxHeartbeats 400000 in
theorem magnitude_any (x : Int) (w : World) (h1 : -9223372036854775808 ≤ x) (h2 : x ≤ 9223372036854775807) :
    Calls Try.prog 53 #[.int .i64 x] w fun e w' => e = .returned (.int .u64 (mag x)) ∧ w = w' := by
  have H := Lib.hid h2; clear h2
  by_cases hx : x < 0
  · go_enter Try.func53, Try.ntmps53
    go_wp2
    go_ret
    exact ⟨ret_int (mag_wrap_neg x h1 hx), rfl⟩
  · go_enter Try.func53, Try.ntmps53
    go_wp2
    go_ret
    exact ⟨ret_int (mag_wrap_pos x (by omega) H.out), rfl⟩

set_option maxHeartbeats 400000 in
theorem signed_any (neg : Bool) (m : Int) (w : World) (h0 : 0 ≤ m) :
    Calls Try.prog 51 #[.bool neg, .int .u64 m] w fun e w' => e = .returned (.int .i64 (sgn neg m)) ∧ w = w' := by
  cases neg
  all_goals
    go_enter Try.func51, Try.ntmps51
    go_wp2
    all_goals
      go_ret
      exact ⟨ret_int (by unfold sgn; first | (rw [if_pos (by assumption)]; rfl) | (rw [if_neg (by omega)]; rfl)), rfl⟩


theorem up_a {whole rest unit : Int} (h : unit - rest < rest) : up whole rest unit = true := by
  unfold up; simp only [Bool.or_eq_true, decide_eq_true_eq]; exact .inl (by omega)
theorem up_b {whole rest unit : Int} (h : rest = unit - rest) (ho : whole % 2 = 1) : up whole rest unit = true := by
  unfold up; simp only [Bool.or_eq_true, Bool.and_eq_true, decide_eq_true_eq]; exact .inr ⟨by omega, ho⟩
theorem up_c {whole rest unit : Int} (h : ¬ unit - rest < rest) (ho : ¬ whole % 2 = 1) : up whole rest unit = false := by
  unfold up; simp only [Bool.or_eq_false_iff, Bool.and_eq_false_iff, decide_eq_false_iff_not]; exact ⟨by omega, .inr ho⟩
theorem up_d {whole rest unit : Int} (h : ¬ unit - rest < rest) (hne : ¬ rest = unit - rest) : up whole rest unit = false := by
  unfold up; simp only [Bool.or_eq_false_iff, Bool.and_eq_false_iff, decide_eq_false_iff_not]; exact ⟨by omega, .inl (by omega)⟩
theorem rnd_up {whole rest unit : Int} (h : up whole rest unit = true) (hw : whole < 9223372036854775808) : whole + 1 = rnd whole rest unit := by
  unfold rnd; rw [if_pos ⟨h, hw⟩]
theorem rnd_cap {whole rest unit : Int} (hw : 9223372036854775808 ≤ whole) : whole = rnd whole rest unit := by
  unfold rnd; rw [if_neg (fun hh => by omega)]
theorem rnd_no {whole rest unit : Int} (h : up whole rest unit = false) : whole = rnd whole rest unit := by
  unfold rnd; rw [if_neg (fun hh => by rw [h] at hh; exact absurd hh.1 (by decide))]

set_option maxHeartbeats 400000 in
theorem rounded_any (whole rest unit : Int) (w : World) (h0 : 0 ≤ whole) (h1 : 0 ≤ rest) (h2 : rest ≤ unit) (h3 : unit < 18446744073709551616) (h4 : whole < 18446744073709551616) :
    Calls Try.prog 62 #[.int .u64 whole, .int .u64 rest, .int .u64 unit] w fun e w' => e = .returned (.int .u64 (rnd whole rest unit)) ∧ w = w' := by
  by_cases c1 : unit - rest < rest
  · go_enter Try.func62, Try.ntmps62
    go_wp2
    all_goals
      go_ret
      exact ⟨ret_int (by first | exact rnd_up (up_a c1) (by assumption) | exact rnd_cap (by assumption)), rfl⟩
  · by_cases c2 : rest = unit - rest
    · have C2 := Lib.hid c2
      have d2 : (rest == unit - rest) = true := beq_iff_eq.2 c2
      clear c2
      by_cases c3 : whole % 2 = 1
      · have d3 : (whole % 2 == 1) = true := beq_iff_eq.2 c3
        have C3 := Lib.hid c3; clear c3
        go_enter Try.func62, Try.ntmps62
        go_wp2
        all_goals
          go_ret
          exact ⟨ret_int (by first | exact rnd_up (up_b C2.out C3.out) (by assumption) | exact rnd_cap (by assumption)), rfl⟩
      · have d3 : (whole % 2 == 1) = false := beq_eq_false_iff_ne.2 c3
        have C3 := Lib.hid c3; clear c3
        go_enter Try.func62, Try.ntmps62
        go_wp2
        go_ret
        exact ⟨ret_int (rnd_no (up_c (by omega) C3.out)), rfl⟩
    · have d2 : (rest == unit - rest) = false := beq_eq_false_iff_ne.2 c2
      have C2 := Lib.hid c2; clear c2
      go_enter Try.func62, Try.ntmps62
      go_wp2
      go_ret
      exact ⟨ret_int (rnd_no (up_d (by omega) C2.out)), rfl⟩

theorem ret_two {k l : IntKind} {a b c d : Int} (h : a = b) (h' : c = d) : Ending.returned (.tuple #[.int k a, .int l c]) = .returned (.tuple #[.int k b, .int l d]) := by rw [h, h']

set_option maxHeartbeats 1000000 in
theorem mul64_any (x y : Int) (w : World) (hx0 : 0 ≤ x) (hx : x < 18446744073709551616) (hy0 : 0 ≤ y) (hy : y < 18446744073709551616) :
    Calls Try.prog 61 #[.int .u64 x, .int .u64 y] w fun e w' => e = .returned (.tuple #[.int .u64 (x * y / 18446744073709551616), .int .u64 (x * y % 18446744073709551616)]) ∧ w = w' := by
  have a0 := and32 x hx0 hx
  have b0 := and32 y hy0 hy
  have p11 := half_prod (a := x / 4294967296) (b := y / 4294967296) (by omega) (by omega) (by omega) (by omega)
  have p10 := half_prod (a := x / 4294967296) (b := y % 4294967296) (by omega) (by omega) (by omega) (by omega)
  have p01 := half_prod (a := x % 4294967296) (b := y / 4294967296) (by omega) (by omega) (by omega) (by omega)
  have p00 := half_prod (a := x % 4294967296) (b := y % 4294967296) (by omega) (by omega) (by omega) (by omega)
  have c0 := and32 (x / 4294967296 * (y % 4294967296) + x % 4294967296 * (y % 4294967296) / 4294967296) (by omega) (by omega)
  obtain ⟨q1, q2⟩ := p11; obtain ⟨q3, q4⟩ := p10; obtain ⟨q5, q6⟩ := p01; obtain ⟨q7, q8⟩ := p00
  go_enter Try.func61, Try.ntmps61
  go_wp2
  go_ret2
  refine ⟨ret_two ?_ ?_, rfl⟩
  · rw [← mul_hi x y]
  · exact wrap64u _

set_option maxHeartbeats 1000000 in
theorem product_any (a b : Int) (w : World) (ha0 : 0 ≤ a) (ha : a ≤ 9223372036854775808) (hb0 : 0 ≤ b) (hb : b ≤ 9223372036854775808) :
    Calls Try.prog 52 #[.int .u64 a, .int .u64 b] w fun e w' => e = .returned (.int .u64 (prodF a b)) ∧ w = w' := by
  obtain ⟨p0, p1⟩ := prod_le ha0 hb0 ha hb
  have C := mul64_any a b w ha0 (by omega) hb0 (by omega)
  by_cases c : a * b < 79228162514264337593543950336
  · have d := or_mid (a * b) p0 c
    have D : Hid (prodF a b = rnd (a * b / 4294967296) (a * b % 4294967296) 4294967296) := by unfold prodF; exact if_pos c
    have R := rounded_any (a * b / 4294967296) (a * b % 4294967296) 4294967296 w (by omega) (by omega) (by omega) (by omega) (by omega)
    have em : a * b % 18446744073709551616 % 4294967296 = a * b % 4294967296 := by omega
    have nz : (a * b / 18446744073709551616 / 4294967296 != 0) = false := by rw [bne_eq_false_iff_eq]; omega
    have C' := Lib.hid C; clear C
    have R' := Lib.hid R; clear R
    go_enter Try.func52, Try.ntmps52
    go_wp2_with fail
    refine C'.out.mono ?_
    rintro e w' ⟨rfl, rfl⟩
    go_wp2_with fail
    refine R'.out.mono ?_
    rintro e w' ⟨rfl, rfl⟩
    go_wp2_with fail
    go_ret
    exact ⟨ret_int D.out.symm, rfl⟩
  · have D : Hid (prodF a b = 9223372036854775808) := by unfold prodF; exact if_neg c
    have nz : (a * b / 18446744073709551616 / 4294967296 != 0) = true := by rw [bne_iff_ne]; omega
    have C' := Lib.hid C; clear C
    go_enter Try.func52, Try.ntmps52
    go_wp2_with fail
    refine C'.out.mono ?_
    rintro e w' ⟨rfl, rfl⟩
    go_wp2_with fail
    go_ret
    exact ⟨ret_int D.out.symm, rfl⟩

set_option maxHeartbeats 1000000 in
theorem mul_any (x y : Int) (w : World) (hx1 : -9223372036854775808 ≤ x) (hx2 : x ≤ 9223372036854775807) (hy1 : -9223372036854775808 ≤ y) (hy2 : y ≤ 9223372036854775807) :
    Calls Try.prog 34 #[.int .i64 x, .int .i64 y] w fun e w' => e = .returned (.int .i64 (mulF x y)) ∧ w = w' := by
  have mx := mag_bounds x hx1 hx2
  have my := mag_bounds y hy1 hy2
  have C1 := Lib.hid (magnitude_any x w hx1 hx2)
  have C2 := Lib.hid (magnitude_any y w hy1 hy2)
  have C3 := Lib.hid (product_any (mag x) (mag y) w mx.1 mx.2 my.1 my.2)
  have hb := prodF_bounds (mag x) (mag y) (Int.mul_nonneg mx.1 my.1)
  have C4 := Lib.hid (signed_any (decide (x < 0) != decide (y < 0)) (prodF (mag x) (mag y)) w hb.1)
  have D : Hid (sgn (decide (x < 0) != decide (y < 0)) (prodF (mag x) (mag y)) = mulF x y) := sgn_prodF _ _ _
  clear mx my hb hx1 hx2 hy1 hy2
  go_enter Try.func34, Try.ntmps34
  go_wp2_with fail
  refine C1.out.mono ?_
  rintro e w' ⟨rfl, rfl⟩
  go_wp2_with fail
  refine C2.out.mono ?_
  rintro e w' ⟨rfl, rfl⟩
  go_wp2_with fail
  refine C3.out.mono ?_
  rintro e w' ⟨rfl, rfl⟩
  go_wp2_with fail
  refine C4.out.mono ?_
  rintro e w' ⟨rfl, rfl⟩
  go_wp2_with fail
  go_ret
  exact ⟨ret_int D.out, rfl⟩

set_option maxHeartbeats 1000000 in
theorem add_any (x y : Int) (w : World) (hx1 : -9223372036854775808 ≤ x) (hx2 : x ≤ 9223372036854775807) (hy1 : -9223372036854775808 ≤ y) (hy2 : y ≤ 9223372036854775807) :
    Calls Try.prog 31 #[.int .i64 x, .int .i64 y] w fun e w' => e = .returned (.int .i64 (sat (x + y))) ∧ w = w' := by
  go_enter Try.func31, Try.ntmps31
  go_wp2
  all_goals
    go_ret
    exact ⟨ret_int (by unfold sat; split <;> (try split) <;> omega), rfl⟩

set_option maxHeartbeats 1000000 in
theorem int_any (x : Int) (w : World) (hx1 : -9223372036854775808 ≤ x) (hx2 : x ≤ 9223372036854775807) :
    Calls Try.prog 46 #[.int .i64 x] w fun e w' => e = .returned (.int .i64 (sat (x * 4294967296))) ∧ w = w' := by
  go_enter Try.func46, Try.ntmps46
  go_wp2
  all_goals
    go_ret
    exact ⟨ret_int (by unfold sat; split <;> (try split) <;> omega), rfl⟩

end Go.Proofs.Ytlpecdfiagklpaa