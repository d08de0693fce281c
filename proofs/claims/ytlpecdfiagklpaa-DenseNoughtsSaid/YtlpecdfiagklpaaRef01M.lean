/-
  The reference product of layer 1 is the product of the plain mathematics.
-/
import Derived.Test.YtlpecdfiagklpaaRef01P
namespace Go.Proofs.Ytlpecdfiagklpaa
open Go.RowKit
set_option linter.unusedVariables false
set_option linter.unusedSimpArgs false

theorem refm_up (neg : Bool) (P Q : Int) (h0 : 0 ≤ P) (hQ : P / 4294967296 % 18446744073709551616 = Q) (hu : up (P / 4294967296) (P % 4294967296) 4294967296 = true) (hq : Q + 1 < 18446744073709551616) :
    heldF (Q + 1) (decide (0 < P / 18446744073709551616 / 4294967296)) neg = sgn neg (rndFull (P / 4294967296) (P % 4294967296) 4294967296) := by
  unfold heldF rndFull
  rw [if_pos hu]
  by_cases c : 0 < P / 18446744073709551616 / 4294967296
  · rw [if_pos (by simpa using c), sgn_big _ _ (by omega), sgn_big _ _ (by omega)]
  · rw [if_neg (by simpa using c)]
    congr 1; omega
theorem refm_wrap (neg : Bool) (P Q : Int) (h0 : 0 ≤ P) (hQ : P / 4294967296 % 18446744073709551616 = Q) (hu : up (P / 4294967296) (P % 4294967296) 4294967296 = true) (hq : Q + 1 = 18446744073709551616) :
    heldF 0 true neg = sgn neg (rndFull (P / 4294967296) (P % 4294967296) 4294967296) := by
  unfold rndFull
  rw [if_pos hu, heldF_true, sgn_big _ _ (by omega), sgn_big _ _ (by omega)]
theorem refm_no (neg : Bool) (P Q : Int) (h0 : 0 ≤ P) (hQ : P / 4294967296 % 18446744073709551616 = Q) (hu : up (P / 4294967296) (P % 4294967296) 4294967296 = false) :
    heldF Q (decide (0 < P / 18446744073709551616 / 4294967296)) neg = sgn neg (rndFull (P / 4294967296) (P % 4294967296) 4294967296) := by
  unfold heldF
  have hr : rndFull (P / 4294967296) (P % 4294967296) 4294967296 = P / 4294967296 := if_neg (by rw [hu]; decide)
  rw [hr]
  by_cases c : 0 < P / 18446744073709551616 / 4294967296
  · rw [if_pos (by simpa using c), sgn_big _ _ (by omega), sgn_big _ _ (by omega)]
  · rw [if_neg (by simpa using c)]
    congr 1; omega

set_option maxHeartbeats 1000000 in
theorem refmul_any (x y : Int) (w : World) (hx1 : -9223372036854775808 ≤ x) (hx2 : x ≤ 9223372036854775807) (hy1 : -9223372036854775808 ≤ y) (hy2 : y ≤ 9223372036854775807) :
    Calls Try.prog 32 #[.int .i64 x, .int .i64 y] w fun e w' => e = .returned (.int .i64 (mulF x y)) ∧ Below w.heap.size w w' := by
  obtain ⟨mx0, mx1⟩ := mag_bounds x hx1 hx2
  obtain ⟨my0, my1⟩ := mag_bounds y hy1 hy2
  have C1 := Lib.hid (fun w => refmag_any x w hx1 hx2)
  have C2 := Lib.hid (fun w => refmag_any y w hy1 hy2)
  have C3 := Lib.hid (fun w => refproduct_any (mag x) (mag y) w mx0 mx1 my0 my1)
  have hP0 : 0 ≤ mag x * mag y := Int.mul_nonneg mx0 my0
  have D : Hid (mulF x y = sgn (decide (x < 0) != decide (y < 0)) (rndFull (mag x * mag y / 4294967296) (mag x * mag y % 4294967296) 4294967296)) := rfl
  clear mx0 mx1 my0 my1 hx1 hx2 hy1 hy2
  generalize mag x * mag y = P at *
  have hor := or_mid_wrap P hP0
  have hre := low_rest P
  obtain ⟨Q, hQ⟩ : ∃ Q, P / 4294967296 % 18446744073709551616 = Q := ⟨_, rfl⟩
  rw [hQ] at hor
  have q0 : 0 ≤ Q := by omega
  have q1 : Q < 18446744073709551616 := by omega
  have key : (2147483648 < P % 4294967296 ∧ up (P / 4294967296) (P % 4294967296) 4294967296 = true) ∨
      (¬ 2147483648 < P % 4294967296 ∧ (P % 4294967296 == 2147483648) = true ∧ (Q % 2 == 1) = true ∧ up (P / 4294967296) (P % 4294967296) 4294967296 = true) ∨
      (¬ 2147483648 < P % 4294967296 ∧ (P % 4294967296 == 2147483648) = true ∧ (Q % 2 == 1) = false ∧ up (P / 4294967296) (P % 4294967296) 4294967296 = false) ∨
      (¬ 2147483648 < P % 4294967296 ∧ (P % 4294967296 == 2147483648) = false ∧ up (P / 4294967296) (P % 4294967296) 4294967296 = false) := by
    by_cases r1 : 2147483648 < P % 4294967296
    · exact .inl ⟨r1, up_a (by omega)⟩
    · by_cases r2 : P % 4294967296 = 2147483648
      · by_cases r3 : Q % 2 = 1
        · exact .inr (.inl ⟨r1, beq_iff_eq.2 r2, beq_iff_eq.2 r3, up_b (by omega) (by omega)⟩)
        · exact .inr (.inr (.inl ⟨r1, beq_iff_eq.2 r2, beq_eq_false_iff_ne.2 r3, up_c (by omega) (by omega)⟩))
      · exact .inr (.inr (.inr ⟨r1, beq_eq_false_iff_ne.2 r2, up_d (by omega) (by omega)⟩))
  have HQ := Lib.hid hQ; clear hQ
  rcases key with ⟨r1, hu⟩ | ⟨r1, r2, r3, hu⟩ | ⟨r1, r2, r3, hu⟩ | ⟨r1, r2, hu⟩
  all_goals have HU := Lib.hid hu; clear hu
  · by_cases c : Q + 1 < 18446744073709551616
    · have c1 : (Q + 1 == 0) = false := by rw [beq_eq_false_iff_ne]; omega
      go_enter Try.func32, Try.ntmps32
      go_wp2_with fail
      refine (C1.out _).mono ?_
      rintro e w' ⟨rfl, rfl⟩
      go_wp2_with fail
      refine (C2.out _).mono ?_
      rintro e w' ⟨rfl, rfl⟩
      go_wp2_with fail
      refine (C3.out _).mono ?_
      rintro e w1 ⟨rfl, hb⟩
      go_wp2_with fail
      refine (held_any _ _ _ _ (by omega) (by omega)).mono ?_
      rintro e w' ⟨rfl, rfl⟩
      go_wp2_with fail
      go_ret
      exact ⟨ret_int (by rw [D.out]; exact refm_up _ P Q hP0 HQ.out HU.out c), hb.alloc hb.size _⟩
    · have c2 : Q + 1 = 18446744073709551616 := by omega
      have c1 : IntKind.u64.wrap (Q + 1) = 0 := by rw [wrap64u, c2]; rfl
      have C2' := Lib.hid c2; clear c2
      go_enter Try.func32, Try.ntmps32
      go_wp2_with fail
      refine (C1.out _).mono ?_
      rintro e w' ⟨rfl, rfl⟩
      go_wp2_with fail
      refine (C2.out _).mono ?_
      rintro e w' ⟨rfl, rfl⟩
      go_wp2_with fail
      refine (C3.out _).mono ?_
      rintro e w1 ⟨rfl, hb⟩
      go_wp2_with fail
      refine (held_any _ _ _ _ (by omega) (by omega)).mono ?_
      rintro e w' ⟨rfl, rfl⟩
      go_wp2_with fail
      go_ret
      exact ⟨ret_int (by rw [D.out]; exact refm_wrap _ P Q hP0 HQ.out HU.out C2'.out), hb.alloc hb.size _⟩
  · by_cases c : Q + 1 < 18446744073709551616
    · have c1 : (Q + 1 == 0) = false := by rw [beq_eq_false_iff_ne]; omega
      go_enter Try.func32, Try.ntmps32
      go_wp2_with fail
      refine (C1.out _).mono ?_
      rintro e w' ⟨rfl, rfl⟩
      go_wp2_with fail
      refine (C2.out _).mono ?_
      rintro e w' ⟨rfl, rfl⟩
      go_wp2_with fail
      refine (C3.out _).mono ?_
      rintro e w1 ⟨rfl, hb⟩
      go_wp2_with fail
      refine (held_any _ _ _ _ (by omega) (by omega)).mono ?_
      rintro e w' ⟨rfl, rfl⟩
      go_wp2_with fail
      go_ret
      exact ⟨ret_int (by rw [D.out]; exact refm_up _ P Q hP0 HQ.out HU.out c), hb.alloc hb.size _⟩
    · have c2 : Q + 1 = 18446744073709551616 := by omega
      have c1 : IntKind.u64.wrap (Q + 1) = 0 := by rw [wrap64u, c2]; rfl
      have C2' := Lib.hid c2; clear c2
      go_enter Try.func32, Try.ntmps32
      go_wp2_with fail
      refine (C1.out _).mono ?_
      rintro e w' ⟨rfl, rfl⟩
      go_wp2_with fail
      refine (C2.out _).mono ?_
      rintro e w' ⟨rfl, rfl⟩
      go_wp2_with fail
      refine (C3.out _).mono ?_
      rintro e w1 ⟨rfl, hb⟩
      go_wp2_with fail
      refine (held_any _ _ _ _ (by omega) (by omega)).mono ?_
      rintro e w' ⟨rfl, rfl⟩
      go_wp2_with fail
      go_ret
      exact ⟨ret_int (by rw [D.out]; exact refm_wrap _ P Q hP0 HQ.out HU.out C2'.out), hb.alloc hb.size _⟩
  · go_enter Try.func32, Try.ntmps32
    go_wp2_with fail
    refine (C1.out _).mono ?_
    rintro e w' ⟨rfl, rfl⟩
    go_wp2_with fail
    refine (C2.out _).mono ?_
    rintro e w' ⟨rfl, rfl⟩
    go_wp2_with fail
    refine (C3.out _).mono ?_
    rintro e w1 ⟨rfl, hb⟩
    go_wp2_with fail
    refine (held_any _ _ _ _ (by omega) (by omega)).mono ?_
    rintro e w' ⟨rfl, rfl⟩
    go_wp2_with fail
    go_ret
    exact ⟨ret_int (by rw [D.out]; exact refm_no _ P Q hP0 HQ.out HU.out), hb.alloc hb.size _⟩
  · go_enter Try.func32, Try.ntmps32
    go_wp2_with fail
    refine (C1.out _).mono ?_
    rintro e w' ⟨rfl, rfl⟩
    go_wp2_with fail
    refine (C2.out _).mono ?_
    rintro e w' ⟨rfl, rfl⟩
    go_wp2_with fail
    refine (C3.out _).mono ?_
    rintro e w1 ⟨rfl, hb⟩
    go_wp2_with fail
    refine (held_any _ _ _ _ (by omega) (by omega)).mono ?_
    rintro e w' ⟨rfl, rfl⟩
    go_wp2_with fail
    go_ret
    exact ⟨ret_int (by rw [D.out]; exact refm_no _ P Q hP0 HQ.out HU.out), hb.alloc hb.size _⟩
end Go.Proofs.Ytlpecdfiagklpaa
