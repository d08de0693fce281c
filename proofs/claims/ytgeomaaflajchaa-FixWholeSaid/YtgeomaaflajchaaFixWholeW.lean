/-
  The walk of the statement FixWhole.
-/
import Derived.Test.YtgeomaaflajchaaAwake01
import Derived.Test.YtgeomaaflajchaaRef01D
import Derived.Test.YtgeomaaflajchaaFixLaws
namespace Go.Proofs.Ytgeomaaflajchaa
open Go.RowKit
set_option linter.unusedVariables false
set_option linter.unusedSimpArgs false

set_option maxHeartbeats 4000000 in
theorem fixWhole_walk (a b : Int) (w : World) (ha1 : -9223372036854775808 ≤ a) (ha2 : a ≤ 9223372036854775807) (hb1 : -9223372036854775808 ≤ b) (hb2 : b ≤ 9223372036854775807) :
    Calls Try.prog 6 #[.int .i64 a, .int .i64 b] w fun e w' => e = .returned (.bool true) ∧ Below w.heap.size w w' := by
  have C1 := Lib.hid (fun w => int_any a w ha1 ha2)
  have C2 := Lib.hid (fun w => size_any a w ha1 ha2)
  have c3 := fun w => held_any (IntKind.u64.wrap (mag a * 4294967296)) (decide (4294967296 ≤ mag a)) (decide (a < 0)) w (by rw [wrap64u]; omega) (by rw [wrap64u]; omega)
  rw [wrap64u, held_int a, ← wrap64u] at c3
  have C3 := Lib.hid c3
  have C4 := Lib.hid (fun w => ratio_any a b w ha1 ha2 hb1 hb2)
  have C5 := Lib.hid (fun w => refdiv_any a b w ha1 ha2 hb1 hb2)
  have C7 := Lib.hid (fun w => floor_any b w hb1 hb2)
  have C8 := Lib.hid (fun w => abs_any b w hb1 hb2)
  have C9 := Lib.hid (fun w => neg_any b w hb1 hb2)
  have xb := sat_bounds (a * 4294967296)
  have c6 := fun w => floor_any (sat (a * 4294967296)) w xb.1 xb.2
  have hfl := Lib.hid (int_floor a)
  clear c3 xb ha1 ha2
  generalize mag a = m at *
  generalize sat (a * 4294967296) = X at *
  generalize divF a b = D at *
  by_cases ca : -2147483648 ≤ a ∧ a < 2147483648
  · obtain ⟨ca1, ca2⟩ := ca
    rw [hfl.out ca1 ca2] at c6
    have C6 := Lib.hid c6
    clear c6 hfl
    by_cases cb : b = -9223372036854775808
    · subst cb
      have f8 : sat (mag (-9223372036854775808)) = 9223372036854775807 := by decide +kernel
      have f9 : sat (-(-9223372036854775808)) = 9223372036854775807 := by decide +kernel
      rw [f8] at C8
      rw [f9] at C9
      clear f8 f9
      go_enter Try.func6, Try.ntmps6
      go_wp2_with fail
      refine (C1.out _).mono ?_
      rintro e w' ⟨rfl, rfl⟩
      go_wp2_with fail
      refine (C2.out _).mono ?_
      rintro e w' ⟨rfl, rfl⟩
      go_wp2_with fail
      refine (C2.out _).mono ?_
      rintro e w' ⟨rfl, rfl⟩
      go_wp2_with fail
      refine (C3.out _).mono ?_
      rintro e w' ⟨rfl, rfl⟩
      go_wp2_with fail
      refine (C4.out _).mono ?_
      rintro e w' ⟨rfl, n1, rfl⟩
      go_wp2_with fail
      refine (C5.out _).mono ?_
      rintro e w1 ⟨rfl, hb1⟩
      go_wp2_with fail
      refine (C6.out _).mono ?_
      rintro e w' ⟨rfl, rfl⟩
      go_wp2_with fail
      refine (C7.out _).mono ?_
      rintro e w' ⟨rfl, rfl⟩
      go_wp2_with fail
      refine (C8.out _).mono ?_
      rintro e w' ⟨rfl, rfl⟩
      go_wp2_with fail
      refine (C8.out _).mono ?_
      rintro e w' ⟨rfl, rfl⟩
      go_wp2_with fail
      refine (C8.out _).mono ?_
      rintro e w' ⟨rfl, rfl⟩
      go_wp2_with fail
      refine (C9.out _).mono ?_
      rintro e w' ⟨rfl, rfl⟩
      go_wp2_with fail
      refine (awake01_any _).mono ?_
      rintro e w2 ⟨rfl, hb2⟩
      go_wp2_with fail
      go_ret
      exact ⟨rfl, (below_drewN' (Below.refl _ _) n1).trans (hb1.trans (hb2.mono hb1.size))⟩
    · by_cases cb2 : b < 0
      · have f8 : sat (mag b) = -b := by rw [mag_neg b cb2, sat_in _ (by omega) (by omega)]
        have f9 : sat (-b) = -b := sat_in _ (by omega) (by omega)
        have c10 := fun w => neg_any (-b) w (by omega) (by omega)
        rw [Int.neg_neg, sat_in b hb1 hb2] at c10
        have C10 := Lib.hid c10
        rw [f8] at C8
        rw [f9] at C9
        have n1 : (-b == b) = false := by rw [beq_eq_false_iff_ne]; omega
        have n2 : (b == -9223372036854775808) = false := by rw [beq_eq_false_iff_ne]; omega
        clear f8 f9 c10
        go_enter Try.func6, Try.ntmps6
        go_wp2_with fail
        refine (C1.out _).mono ?_
        rintro e w' ⟨rfl, rfl⟩
        go_wp2_with fail
        refine (C2.out _).mono ?_
        rintro e w' ⟨rfl, rfl⟩
        go_wp2_with fail
        refine (C2.out _).mono ?_
        rintro e w' ⟨rfl, rfl⟩
        go_wp2_with fail
        refine (C3.out _).mono ?_
        rintro e w' ⟨rfl, rfl⟩
        go_wp2_with fail
        refine (C4.out _).mono ?_
        rintro e w' ⟨rfl, n1, rfl⟩
        go_wp2_with fail
        refine (C5.out _).mono ?_
        rintro e w1 ⟨rfl, hb1⟩
        go_wp2_with fail
        refine (C6.out _).mono ?_
        rintro e w' ⟨rfl, rfl⟩
        go_wp2_with fail
        refine (C7.out _).mono ?_
        rintro e w' ⟨rfl, rfl⟩
        go_wp2_with fail
        refine (C8.out _).mono ?_
        rintro e w' ⟨rfl, rfl⟩
        go_wp2_with fail
        refine (C8.out _).mono ?_
        rintro e w' ⟨rfl, rfl⟩
        go_wp2_with fail
        refine (C8.out _).mono ?_
        rintro e w' ⟨rfl, rfl⟩
        go_wp2_with fail
        refine (C9.out _).mono ?_
        rintro e w' ⟨rfl, rfl⟩
        go_wp2_with fail
        refine (C9.out _).mono ?_
        rintro e w' ⟨rfl, rfl⟩
        go_wp2_with fail
        refine (C10.out _).mono ?_
        rintro e w' ⟨rfl, rfl⟩
        go_wp2_with fail
        refine (awake01_any _).mono ?_
        rintro e w2 ⟨rfl, hb2⟩
        go_wp2_with fail
        go_ret
        exact ⟨rfl, (below_drewN' (Below.refl _ _) n1).trans (hb1.trans (hb2.mono hb1.size))⟩
      · have f8 : sat (mag b) = b := by rw [mag_pos b (by omega), sat_in _ (by omega) (by omega)]
        have f9 : sat (-b) = -b := sat_in _ (by omega) (by omega)
        have c10 := fun w => neg_any (-b) w (by omega) (by omega)
        rw [Int.neg_neg, sat_in b hb1 hb2] at c10
        have C10 := Lib.hid c10
        rw [f8] at C8
        rw [f9] at C9
        have n2 : (b == -9223372036854775808) = false := by rw [beq_eq_false_iff_ne]; omega
        clear f8 f9 c10
        go_enter Try.func6, Try.ntmps6
        go_wp2_with fail
        refine (C1.out _).mono ?_
        rintro e w' ⟨rfl, rfl⟩
        go_wp2_with fail
        refine (C2.out _).mono ?_
        rintro e w' ⟨rfl, rfl⟩
        go_wp2_with fail
        refine (C2.out _).mono ?_
        rintro e w' ⟨rfl, rfl⟩
        go_wp2_with fail
        refine (C3.out _).mono ?_
        rintro e w' ⟨rfl, rfl⟩
        go_wp2_with fail
        refine (C4.out _).mono ?_
        rintro e w' ⟨rfl, n1, rfl⟩
        go_wp2_with fail
        refine (C5.out _).mono ?_
        rintro e w1 ⟨rfl, hb1⟩
        go_wp2_with fail
        refine (C6.out _).mono ?_
        rintro e w' ⟨rfl, rfl⟩
        go_wp2_with fail
        refine (C7.out _).mono ?_
        rintro e w' ⟨rfl, rfl⟩
        go_wp2_with fail
        refine (C8.out _).mono ?_
        rintro e w' ⟨rfl, rfl⟩
        go_wp2_with fail
        refine (C8.out _).mono ?_
        rintro e w' ⟨rfl, rfl⟩
        go_wp2_with fail
        refine (C9.out _).mono ?_
        rintro e w' ⟨rfl, rfl⟩
        go_wp2_with fail
        refine (C10.out _).mono ?_
        rintro e w' ⟨rfl, rfl⟩
        go_wp2_with fail
        refine (awake01_any _).mono ?_
        rintro e w2 ⟨rfl, hb2⟩
        go_wp2_with fail
        go_ret
        exact ⟨rfl, (below_drewN' (Below.refl _ _) n1).trans (hb1.trans (hb2.mono hb1.size))⟩
  · clear c6 hfl
    by_cases ca1 : a < 2147483648
    · have ca2 : a < -2147483648 := by omega
      clear ca
      by_cases cb : b = -9223372036854775808
      · subst cb
        have f8 : sat (mag (-9223372036854775808)) = 9223372036854775807 := by decide +kernel
        have f9 : sat (-(-9223372036854775808)) = 9223372036854775807 := by decide +kernel
        rw [f8] at C8
        rw [f9] at C9
        clear f8 f9
        go_enter Try.func6, Try.ntmps6
        go_wp2_with fail
        refine (C1.out _).mono ?_
        rintro e w' ⟨rfl, rfl⟩
        go_wp2_with fail
        refine (C2.out _).mono ?_
        rintro e w' ⟨rfl, rfl⟩
        go_wp2_with fail
        refine (C2.out _).mono ?_
        rintro e w' ⟨rfl, rfl⟩
        go_wp2_with fail
        refine (C3.out _).mono ?_
        rintro e w' ⟨rfl, rfl⟩
        go_wp2_with fail
        refine (C4.out _).mono ?_
        rintro e w' ⟨rfl, n1, rfl⟩
        go_wp2_with fail
        refine (C5.out _).mono ?_
        rintro e w1 ⟨rfl, hb1⟩
        go_wp2_with fail
        refine (C7.out _).mono ?_
        rintro e w' ⟨rfl, rfl⟩
        go_wp2_with fail
        refine (C8.out _).mono ?_
        rintro e w' ⟨rfl, rfl⟩
        go_wp2_with fail
        refine (C8.out _).mono ?_
        rintro e w' ⟨rfl, rfl⟩
        go_wp2_with fail
        refine (C8.out _).mono ?_
        rintro e w' ⟨rfl, rfl⟩
        go_wp2_with fail
        refine (C9.out _).mono ?_
        rintro e w' ⟨rfl, rfl⟩
        go_wp2_with fail
        refine (awake01_any _).mono ?_
        rintro e w2 ⟨rfl, hb2⟩
        go_wp2_with fail
        go_ret
        exact ⟨rfl, (below_drewN' (Below.refl _ _) n1).trans (hb1.trans (hb2.mono hb1.size))⟩
      · by_cases cb2 : b < 0
        · have f8 : sat (mag b) = -b := by rw [mag_neg b cb2, sat_in _ (by omega) (by omega)]
          have f9 : sat (-b) = -b := sat_in _ (by omega) (by omega)
          have c10 := fun w => neg_any (-b) w (by omega) (by omega)
          rw [Int.neg_neg, sat_in b hb1 hb2] at c10
          have C10 := Lib.hid c10
          rw [f8] at C8
          rw [f9] at C9
          have n1 : (-b == b) = false := by rw [beq_eq_false_iff_ne]; omega
          have n2 : (b == -9223372036854775808) = false := by rw [beq_eq_false_iff_ne]; omega
          clear f8 f9 c10
          go_enter Try.func6, Try.ntmps6
          go_wp2_with fail
          refine (C1.out _).mono ?_
          rintro e w' ⟨rfl, rfl⟩
          go_wp2_with fail
          refine (C2.out _).mono ?_
          rintro e w' ⟨rfl, rfl⟩
          go_wp2_with fail
          refine (C2.out _).mono ?_
          rintro e w' ⟨rfl, rfl⟩
          go_wp2_with fail
          refine (C3.out _).mono ?_
          rintro e w' ⟨rfl, rfl⟩
          go_wp2_with fail
          refine (C4.out _).mono ?_
          rintro e w' ⟨rfl, n1, rfl⟩
          go_wp2_with fail
          refine (C5.out _).mono ?_
          rintro e w1 ⟨rfl, hb1⟩
          go_wp2_with fail
          refine (C7.out _).mono ?_
          rintro e w' ⟨rfl, rfl⟩
          go_wp2_with fail
          refine (C8.out _).mono ?_
          rintro e w' ⟨rfl, rfl⟩
          go_wp2_with fail
          refine (C8.out _).mono ?_
          rintro e w' ⟨rfl, rfl⟩
          go_wp2_with fail
          refine (C8.out _).mono ?_
          rintro e w' ⟨rfl, rfl⟩
          go_wp2_with fail
          refine (C9.out _).mono ?_
          rintro e w' ⟨rfl, rfl⟩
          go_wp2_with fail
          refine (C9.out _).mono ?_
          rintro e w' ⟨rfl, rfl⟩
          go_wp2_with fail
          refine (C10.out _).mono ?_
          rintro e w' ⟨rfl, rfl⟩
          go_wp2_with fail
          refine (awake01_any _).mono ?_
          rintro e w2 ⟨rfl, hb2⟩
          go_wp2_with fail
          go_ret
          exact ⟨rfl, (below_drewN' (Below.refl _ _) n1).trans (hb1.trans (hb2.mono hb1.size))⟩
        · have f8 : sat (mag b) = b := by rw [mag_pos b (by omega), sat_in _ (by omega) (by omega)]
          have f9 : sat (-b) = -b := sat_in _ (by omega) (by omega)
          have c10 := fun w => neg_any (-b) w (by omega) (by omega)
          rw [Int.neg_neg, sat_in b hb1 hb2] at c10
          have C10 := Lib.hid c10
          rw [f8] at C8
          rw [f9] at C9
          have n2 : (b == -9223372036854775808) = false := by rw [beq_eq_false_iff_ne]; omega
          clear f8 f9 c10
          go_enter Try.func6, Try.ntmps6
          go_wp2_with fail
          refine (C1.out _).mono ?_
          rintro e w' ⟨rfl, rfl⟩
          go_wp2_with fail
          refine (C2.out _).mono ?_
          rintro e w' ⟨rfl, rfl⟩
          go_wp2_with fail
          refine (C2.out _).mono ?_
          rintro e w' ⟨rfl, rfl⟩
          go_wp2_with fail
          refine (C3.out _).mono ?_
          rintro e w' ⟨rfl, rfl⟩
          go_wp2_with fail
          refine (C4.out _).mono ?_
          rintro e w' ⟨rfl, n1, rfl⟩
          go_wp2_with fail
          refine (C5.out _).mono ?_
          rintro e w1 ⟨rfl, hb1⟩
          go_wp2_with fail
          refine (C7.out _).mono ?_
          rintro e w' ⟨rfl, rfl⟩
          go_wp2_with fail
          refine (C8.out _).mono ?_
          rintro e w' ⟨rfl, rfl⟩
          go_wp2_with fail
          refine (C8.out _).mono ?_
          rintro e w' ⟨rfl, rfl⟩
          go_wp2_with fail
          refine (C9.out _).mono ?_
          rintro e w' ⟨rfl, rfl⟩
          go_wp2_with fail
          refine (C10.out _).mono ?_
          rintro e w' ⟨rfl, rfl⟩
          go_wp2_with fail
          refine (awake01_any _).mono ?_
          rintro e w2 ⟨rfl, hb2⟩
          go_wp2_with fail
          go_ret
          exact ⟨rfl, (below_drewN' (Below.refl _ _) n1).trans (hb1.trans (hb2.mono hb1.size))⟩
    · clear ca
      by_cases cb : b = -9223372036854775808
      · subst cb
        have f8 : sat (mag (-9223372036854775808)) = 9223372036854775807 := by decide +kernel
        have f9 : sat (-(-9223372036854775808)) = 9223372036854775807 := by decide +kernel
        rw [f8] at C8
        rw [f9] at C9
        clear f8 f9
        go_enter Try.func6, Try.ntmps6
        go_wp2_with fail
        refine (C1.out _).mono ?_
        rintro e w' ⟨rfl, rfl⟩
        go_wp2_with fail
        refine (C2.out _).mono ?_
        rintro e w' ⟨rfl, rfl⟩
        go_wp2_with fail
        refine (C2.out _).mono ?_
        rintro e w' ⟨rfl, rfl⟩
        go_wp2_with fail
        refine (C3.out _).mono ?_
        rintro e w' ⟨rfl, rfl⟩
        go_wp2_with fail
        refine (C4.out _).mono ?_
        rintro e w' ⟨rfl, n1, rfl⟩
        go_wp2_with fail
        refine (C5.out _).mono ?_
        rintro e w1 ⟨rfl, hb1⟩
        go_wp2_with fail
        refine (C7.out _).mono ?_
        rintro e w' ⟨rfl, rfl⟩
        go_wp2_with fail
        refine (C8.out _).mono ?_
        rintro e w' ⟨rfl, rfl⟩
        go_wp2_with fail
        refine (C8.out _).mono ?_
        rintro e w' ⟨rfl, rfl⟩
        go_wp2_with fail
        refine (C8.out _).mono ?_
        rintro e w' ⟨rfl, rfl⟩
        go_wp2_with fail
        refine (C9.out _).mono ?_
        rintro e w' ⟨rfl, rfl⟩
        go_wp2_with fail
        refine (awake01_any _).mono ?_
        rintro e w2 ⟨rfl, hb2⟩
        go_wp2_with fail
        go_ret
        exact ⟨rfl, (below_drewN' (Below.refl _ _) n1).trans (hb1.trans (hb2.mono hb1.size))⟩
      · by_cases cb2 : b < 0
        · have f8 : sat (mag b) = -b := by rw [mag_neg b cb2, sat_in _ (by omega) (by omega)]
          have f9 : sat (-b) = -b := sat_in _ (by omega) (by omega)
          have c10 := fun w => neg_any (-b) w (by omega) (by omega)
          rw [Int.neg_neg, sat_in b hb1 hb2] at c10
          have C10 := Lib.hid c10
          rw [f8] at C8
          rw [f9] at C9
          have n1 : (-b == b) = false := by rw [beq_eq_false_iff_ne]; omega
          have n2 : (b == -9223372036854775808) = false := by rw [beq_eq_false_iff_ne]; omega
          clear f8 f9 c10
          go_enter Try.func6, Try.ntmps6
          go_wp2_with fail
          refine (C1.out _).mono ?_
          rintro e w' ⟨rfl, rfl⟩
          go_wp2_with fail
          refine (C2.out _).mono ?_
          rintro e w' ⟨rfl, rfl⟩
          go_wp2_with fail
          refine (C2.out _).mono ?_
          rintro e w' ⟨rfl, rfl⟩
          go_wp2_with fail
          refine (C3.out _).mono ?_
          rintro e w' ⟨rfl, rfl⟩
          go_wp2_with fail
          refine (C4.out _).mono ?_
          rintro e w' ⟨rfl, n1, rfl⟩
          go_wp2_with fail
          refine (C5.out _).mono ?_
          rintro e w1 ⟨rfl, hb1⟩
          go_wp2_with fail
          refine (C7.out _).mono ?_
          rintro e w' ⟨rfl, rfl⟩
          go_wp2_with fail
          refine (C8.out _).mono ?_
          rintro e w' ⟨rfl, rfl⟩
          go_wp2_with fail
          refine (C8.out _).mono ?_
          rintro e w' ⟨rfl, rfl⟩
          go_wp2_with fail
          refine (C8.out _).mono ?_
          rintro e w' ⟨rfl, rfl⟩
          go_wp2_with fail
          refine (C9.out _).mono ?_
          rintro e w' ⟨rfl, rfl⟩
          go_wp2_with fail
          refine (C9.out _).mono ?_
          rintro e w' ⟨rfl, rfl⟩
          go_wp2_with fail
          refine (C10.out _).mono ?_
          rintro e w' ⟨rfl, rfl⟩
          go_wp2_with fail
          refine (awake01_any _).mono ?_
          rintro e w2 ⟨rfl, hb2⟩
          go_wp2_with fail
          go_ret
          exact ⟨rfl, (below_drewN' (Below.refl _ _) n1).trans (hb1.trans (hb2.mono hb1.size))⟩
        · have f8 : sat (mag b) = b := by rw [mag_pos b (by omega), sat_in _ (by omega) (by omega)]
          have f9 : sat (-b) = -b := sat_in _ (by omega) (by omega)
          have c10 := fun w => neg_any (-b) w (by omega) (by omega)
          rw [Int.neg_neg, sat_in b hb1 hb2] at c10
          have C10 := Lib.hid c10
          rw [f8] at C8
          rw [f9] at C9
          have n2 : (b == -9223372036854775808) = false := by rw [beq_eq_false_iff_ne]; omega
          clear f8 f9 c10
          go_enter Try.func6, Try.ntmps6
          go_wp2_with fail
          refine (C1.out _).mono ?_
          rintro e w' ⟨rfl, rfl⟩
          go_wp2_with fail
          refine (C2.out _).mono ?_
          rintro e w' ⟨rfl, rfl⟩
          go_wp2_with fail
          refine (C2.out _).mono ?_
          rintro e w' ⟨rfl, rfl⟩
          go_wp2_with fail
          refine (C3.out _).mono ?_
          rintro e w' ⟨rfl, rfl⟩
          go_wp2_with fail
          refine (C4.out _).mono ?_
          rintro e w' ⟨rfl, n1, rfl⟩
          go_wp2_with fail
          refine (C5.out _).mono ?_
          rintro e w1 ⟨rfl, hb1⟩
          go_wp2_with fail
          refine (C7.out _).mono ?_
          rintro e w' ⟨rfl, rfl⟩
          go_wp2_with fail
          refine (C8.out _).mono ?_
          rintro e w' ⟨rfl, rfl⟩
          go_wp2_with fail
          refine (C8.out _).mono ?_
          rintro e w' ⟨rfl, rfl⟩
          go_wp2_with fail
          refine (C9.out _).mono ?_
          rintro e w' ⟨rfl, rfl⟩
          go_wp2_with fail
          refine (C10.out _).mono ?_
          rintro e w' ⟨rfl, rfl⟩
          go_wp2_with fail
          refine (awake01_any _).mono ?_
          rintro e w2 ⟨rfl, hb2⟩
          go_wp2_with fail
          go_ret
          exact ⟨rfl, (below_drewN' (Below.refl _ _) n1).trans (hb1.trans (hb2.mono hb1.size))⟩
end Go.Proofs.Ytgeomaaflajchaa
