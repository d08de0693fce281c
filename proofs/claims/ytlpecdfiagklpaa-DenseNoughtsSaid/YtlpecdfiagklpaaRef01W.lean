/-
  Contracts of the reference package of layer 1: each function's result, for every argument.
-/
import Derived.Test.YtlpecdfiagklpaaFixW
namespace Go.Proofs.Ytlpecdfiagklpaa
open Go.RowKit
set_option linter.unusedVariables false
set_option linter.unusedSimpArgs false

set_option maxHeartbeats 400000 in
theorem refmag_any (x : Int) (w : World) (h1 : -9223372036854775808 ≤ x) (h2 : x ≤ 9223372036854775807) :
    Calls Try.prog 49 #[.int .i64 x] w fun e w' => e = .returned (.int .u64 (mag x)) ∧ w = w' := by
  go_enter Try.func49, Try.ntmps49
  go_wp2
  all_goals
    go_ret
    exact ⟨ret_int (by unfold mag; split <;> omega), rfl⟩

set_option maxHeartbeats 400000 in
theorem held_any (n : Int) (over negative : Bool) (w : World) (h0 : 0 ≤ n) (h1 : n < 18446744073709551616) :
    Calls Try.prog 50 #[.int .u64 n, .bool over, .bool negative] w fun e w' => e = .returned (.int .i64 (heldF n over negative)) ∧ w = w' := by
  cases over <;> cases negative
  · go_enter Try.func50, Try.ntmps50
    go_wp2
    all_goals
      go_ret
      exact ⟨ret_int (by (first | rw [heldF_false] | rw [heldF_true]); (unfold sgn; first | (rw [if_pos (by omega)]; rfl) | (rw [if_neg (by omega)]; rfl))), rfl⟩
  · rcases Int.lt_trichotomy n 9223372036854775808 with c | c | c
    · have d : (n == 9223372036854775808) = false := by rw [beq_eq_false_iff_ne]; omega
      go_enter Try.func50, Try.ntmps50
      go_wp2
      go_ret
      exact ⟨ret_int (by (first | rw [heldF_false] | rw [heldF_true]); (unfold sgn; rw [if_pos c]; rfl)), rfl⟩
    · subst c
      go_enter Try.func50, Try.ntmps50
      go_wp2
      go_ret
      exact ⟨ret_int (by (first | rw [heldF_false] | rw [heldF_true]); (unfold sgn; rfl)), rfl⟩
    · go_enter Try.func50, Try.ntmps50
      go_wp2
      go_ret
      exact ⟨ret_int (by (first | rw [heldF_false] | rw [heldF_true]); (unfold sgn; rw [if_neg (by omega)]; rfl)), rfl⟩
  · go_enter Try.func50, Try.ntmps50
    go_wp2
    go_ret
    exact ⟨ret_int (by (first | rw [heldF_false] | rw [heldF_true]); (unfold sgn; rfl)), rfl⟩
  · go_enter Try.func50, Try.ntmps50
    go_wp2
    go_ret
    exact ⟨ret_int (by (first | rw [heldF_false] | rw [heldF_true]); (unfold sgn; rfl)), rfl⟩

set_option maxHeartbeats 400000 in
theorem refadd_any (x y : Int) (w : World) (hx1 : -9223372036854775808 ≤ x) (hx2 : x ≤ 9223372036854775807) (hy1 : -9223372036854775808 ≤ y) (hy2 : y ≤ 9223372036854775807) :
    Calls Try.prog 23 #[.int .i64 x, .int .i64 y] w fun e w' => e = .returned (.int .i64 (sat (x + y))) ∧ w = w' := by
  go_enter Try.func23, Try.ntmps23
  go_wp2
  all_goals
    go_ret
    exact ⟨ret_int (by unfold sat; split <;> (try split) <;> omega), rfl⟩

theorem ret_wide {a b c d : Int} (h : a = b) (h' : c = d) : Ending.returned (.agg #[.int .u64 a, .int .u64 c]) = .returned (.agg #[.int .u64 b, .int .u64 d]) := by rw [h, h']

set_option maxHeartbeats 400000 in
theorem double_any (h l : Int) (w : World) (h0 : 0 ≤ h) (h1 : h < 9223372036854775808) (l0 : 0 ≤ l) (l1 : l < 18446744073709551616) :
    Calls Try.prog 59 #[.agg #[.int .u64 h, .int .u64 l]] w fun e w' => e = .returned (.agg #[.int .u64 (h * 2 + l / 9223372036854775808), .int .u64 (l * 2 % 18446744073709551616)]) ∧ Below w.heap.size w w' := by
  have c := or_even h (l / 9223372036854775808) h0 h1 (by omega) (by omega)
  have d := wrap64u (l * 2)
  go_enter Try.func59, Try.ntmps59
  go_wp2
  exact bodyPost_ret (v := .agg #[.int .u64 (h * 2 + l / 9223372036854775808), .int .u64 (l * 2 % 18446744073709551616)]) (by simp [results, Try.results59, go_sem]) rfl ⟨rfl, ((Below.refl _ _).alloc (Nat.le_refl _) _).alloc (by simp) _⟩

set_option maxHeartbeats 400000 in
theorem plus_any (h l k m : Int) (w : World) (h0 : 0 ≤ h) (h1 : h < 9223372036854775808) (l0 : 0 ≤ l) (l1 : l < 18446744073709551616) (k0 : 0 ≤ k) (k1 : k < 9223372036854775808) (m0 : 0 ≤ m) (m1 : m < 18446744073709551616) :
    Calls Try.prog 60 #[.agg #[.int .u64 h, .int .u64 l], .agg #[.int .u64 k, .int .u64 m]] w fun e w' => e = .returned (.agg #[.int .u64 (h + k + (l + m) / 18446744073709551616), .int .u64 ((l + m) % 18446744073709551616)]) ∧ Below w.heap.size w w' := by
  by_cases c : l + m < 18446744073709551616
  · go_enter Try.func60, Try.ntmps60
    go_wp2
    exact bodyPost_ret (v := .agg #[.int .u64 (h + k), .int .u64 (l + m)]) (by simp [results, Try.results60, go_sem]) rfl ⟨ret_wide (by omega) (by omega), ((((Below.refl _ _).alloc (Nat.le_refl _) _).alloc (by simp) _).alloc (by simp; omega) _).alloc (by simp; omega) _⟩
  · have d : IntKind.u64.wrap (l + m) = l + m - 18446744073709551616 := by rw [wrap64u]; omega
    go_enter Try.func60, Try.ntmps60
    go_wp2
    exact bodyPost_ret (v := .agg #[.int .u64 (h + k + 1), .int .u64 (l + m - 18446744073709551616)]) (by simp [results, Try.results60, go_sem]) rfl ⟨ret_wide (by omega) (by omega), ((((Below.refl _ _).alloc (Nat.le_refl _) _).alloc (by simp) _).alloc (by simp; omega) _).alloc (by simp; omega) _⟩

theorem double_val (V : Int) (w : World) (h0 : 0 ≤ V) (h1 : V < 170141183460469231731687303715884105728) :
    Calls Try.prog 59 #[.agg #[.int .u64 (V / 18446744073709551616), .int .u64 (V % 18446744073709551616)]] w fun e w' => e = .returned (.agg #[.int .u64 (V * 2 / 18446744073709551616), .int .u64 (V * 2 % 18446744073709551616)]) ∧ Below w.heap.size w w' := by
  refine (double_any _ _ w (by omega) (by omega) (by omega) (by omega)).mono fun e w' ⟨he, hb⟩ => ⟨he.trans (ret_wide (by omega) (by omega)), hb⟩

theorem plus_val (V a : Int) (w : World) (h0 : 0 ≤ V) (h1 : V < 170141183460469231731687303715884105728) (a0 : 0 ≤ a) (a1 : a < 18446744073709551616) :
    Calls Try.prog 60 #[.agg #[.int .u64 (V / 18446744073709551616), .int .u64 (V % 18446744073709551616)], .agg #[.int .u64 0, .int .u64 a]] w fun e w' => e = .returned (.agg #[.int .u64 ((V + a) / 18446744073709551616), .int .u64 ((V + a) % 18446744073709551616)]) ∧ Below w.heap.size w w' := by
  refine (plus_any _ _ 0 a w (by omega) (by omega) (by omega) (by omega) (by omega) (by omega) a0 a1).mono fun e w' ⟨he, hb⟩ => ⟨he.trans (ret_wide (by omega) (by omega)), hb⟩

end Go.Proofs.Ytlpecdfiagklpaa
