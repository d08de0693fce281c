/-
  The walk of the statement FixOrder.
-/
import Derived.Test.YtgeomaaflajchaaAwake01
import Derived.Test.YtgeomaaflajchaaFixLaws
namespace Go.Proofs.Ytgeomaaflajchaa
open Go.RowKit
set_option linter.unusedVariables false
set_option linter.unusedSimpArgs false

set_option maxHeartbeats 4000000 in
theorem fixOrder_walk (x y z : Int) (w : World) (hx1 : -9223372036854775808 ≤ x) (hx2 : x ≤ 9223372036854775807) (hy1 : -9223372036854775808 ≤ y) (hy2 : y ≤ 9223372036854775807) (hz1 : -9223372036854775808 ≤ z) (hz2 : z ≤ 9223372036854775807) :
    Calls Try.prog 8 #[.int .i64 x, .int .i64 y, .int .i64 z] w fun e w' => e = .returned (.bool true) ∧ Below w.heap.size w w' := by
  obtain ⟨a, ha⟩ : ∃ a, min x y = a := ⟨_, rfl⟩
  obtain ⟨b, hb⟩ : ∃ b, max x y = b := ⟨_, rfl⟩
  obtain ⟨k, hk⟩ : ∃ k, max z 0 = k := ⟨_, rfl⟩
  have C2 := Lib.hid (fun w => mul_any a k w (by omega) (by omega) (by omega) (by omega))
  have C3 := Lib.hid (fun w => mul_any b k w (by omega) (by omega) (by omega) (by omega))
  have C4 := Lib.hid (fun w => add_any a z w (by omega) (by omega) (by omega) (by omega))
  have C5 := Lib.hid (fun w => add_any b z w (by omega) (by omega) (by omega) (by omega))
  have hab : a ≤ b := by omega
  have m1 := mulF_mono a b k (by omega) (by omega)
  have m2 := sat_mono (show a + z ≤ b + z by omega)
  generalize mulF a k = u at *
  generalize mulF b k = v at *
  generalize sat (a + z) = s at *
  generalize sat (b + z) = t at *
  clear hx1 hx2 hy1 hy2 hz1 hz2
  by_cases c3 : z < a
  · have nz : (a == z) = false := by rw [beq_eq_false_iff_ne]; omega
    have C1 := Lib.hid (fun w => clamp_any z a b w)
    have e1 : clampF z a b = a := by unfold clampF; repeat (first | rw [if_pos (by omega)] | rw [if_neg (by omega)])
    rw [e1] at C1
    clear e1
    go_enter Try.func8, Try.ntmps8
    go_wp2_with fail
    refine (C1.out _).mono ?_
    rintro e w' ⟨rfl, rfl⟩
    go_wp2_with fail
    refine (C2.out _).mono ?_
    rintro e w' ⟨rfl, rfl⟩
    go_wp2_with fail
    refine (C3.out _).mono ?_
    rintro e w' ⟨rfl, rfl⟩
    go_wp2_with fail
    refine (C4.out _).mono ?_
    rintro e w' ⟨rfl, rfl⟩
    go_wp2_with fail
    refine (C5.out _).mono ?_
    rintro e w' ⟨rfl, rfl⟩
    go_wp2_with fail
    refine (awake01_any _).mono ?_
    rintro e w2 ⟨rfl, hb2⟩
    go_wp2_with fail
    go_ret
    exact ⟨rfl, hb2⟩
  · by_cases c4 : b < z
    · have nz : (b == z) = false := by rw [beq_eq_false_iff_ne]; omega
      by_cases c5 : a = b
      · have nz2 : (b == a) = true := beq_iff_eq.2 c5.symm
        have K := Lib.hid c5; clear c5
        have C1 := Lib.hid (fun w => clamp_any z a b w)
        have e1 : clampF z a b = b := by unfold clampF; repeat (first | rw [if_pos (by omega)] | rw [if_neg (by omega)])
        rw [e1] at C1
        clear e1
        go_enter Try.func8, Try.ntmps8
        go_wp2_with fail
        refine (C1.out _).mono ?_
        rintro e w' ⟨rfl, rfl⟩
        go_wp2_with fail
        refine (C2.out _).mono ?_
        rintro e w' ⟨rfl, rfl⟩
        go_wp2_with fail
        refine (C3.out _).mono ?_
        rintro e w' ⟨rfl, rfl⟩
        go_wp2_with fail
        refine (C4.out _).mono ?_
        rintro e w' ⟨rfl, rfl⟩
        go_wp2_with fail
        refine (C5.out _).mono ?_
        rintro e w' ⟨rfl, rfl⟩
        go_wp2_with fail
        refine (awake01_any _).mono ?_
        rintro e w2 ⟨rfl, hb2⟩
        go_wp2_with fail
        go_ret
        exact ⟨rfl, hb2⟩
      · have nz2 : (b == a) = false := by rw [beq_eq_false_iff_ne]; omega
        have C1 := Lib.hid (fun w => clamp_any z a b w)
        have e1 : clampF z a b = b := by unfold clampF; repeat (first | rw [if_pos (by omega)] | rw [if_neg (by omega)])
        rw [e1] at C1
        clear e1
        go_enter Try.func8, Try.ntmps8
        go_wp2_with fail
        refine (C1.out _).mono ?_
        rintro e w' ⟨rfl, rfl⟩
        go_wp2_with fail
        refine (C2.out _).mono ?_
        rintro e w' ⟨rfl, rfl⟩
        go_wp2_with fail
        refine (C3.out _).mono ?_
        rintro e w' ⟨rfl, rfl⟩
        go_wp2_with fail
        refine (C4.out _).mono ?_
        rintro e w' ⟨rfl, rfl⟩
        go_wp2_with fail
        refine (C5.out _).mono ?_
        rintro e w' ⟨rfl, rfl⟩
        go_wp2_with fail
        refine (awake01_any _).mono ?_
        rintro e w2 ⟨rfl, hb2⟩
        go_wp2_with fail
        go_ret
        exact ⟨rfl, hb2⟩
    · have C1 := Lib.hid (fun w => clamp_any z a b w)
      have e1 : clampF z a b = z := by unfold clampF; repeat (first | rw [if_pos (by omega)] | rw [if_neg (by omega)])
      rw [e1] at C1
      clear e1
      go_enter Try.func8, Try.ntmps8
      go_wp2_with fail
      refine (C1.out _).mono ?_
      rintro e w' ⟨rfl, rfl⟩
      go_wp2_with fail
      refine (C2.out _).mono ?_
      rintro e w' ⟨rfl, rfl⟩
      go_wp2_with fail
      refine (C3.out _).mono ?_
      rintro e w' ⟨rfl, rfl⟩
      go_wp2_with fail
      refine (C4.out _).mono ?_
      rintro e w' ⟨rfl, rfl⟩
      go_wp2_with fail
      refine (C5.out _).mono ?_
      rintro e w' ⟨rfl, rfl⟩
      go_wp2_with fail
      refine (awake01_any _).mono ?_
      rintro e w2 ⟨rfl, hb2⟩
      go_wp2_with fail
      go_ret
      exact ⟨rfl, hb2⟩
end Go.Proofs.Ytgeomaaflajchaa
