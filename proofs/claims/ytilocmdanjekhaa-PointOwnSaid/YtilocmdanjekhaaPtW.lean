/-
  Contracts of package point: Ins, Cell, Slope.
-/
import Derived.Test.YtilocmdanjekhaaPtMath
import Derived.Test.YtilocmdanjekhaaFixW
namespace Go.Proofs.Ytilocmdanjekhaa
open Go.RowKit
set_option linter.unusedVariables false
set_option linter.unusedSimpArgs false

theorem kinds (kind : Int) : kind = 1 ∨ kind = 2 ∨ kind = 3 ∨ kind = 4 ∨ kind = 5 ∨ kind = 6 ∨ kind = 7 ∨ ((kind == 1) = false ∧ (kind == 2) = false ∧ (kind == 3) = false ∧ (kind == 4) = false ∧ (kind == 5) = false ∧ (kind == 6) = false ∧ (kind == 7) = false) := by
  simp only [beq_eq_false_iff_ne]
  omega

set_option maxHeartbeats 1000000 in
theorem ins_any (kind : Int) (w : World) : Calls Try.prog 21 #[.int .i64 kind] w fun e w' => e = .returned (.int .i64 (insN kind)) ∧ w = w' := by
  rcases kinds kind with rfl | rfl | rfl | rfl | rfl | rfl | rfl | ⟨d1, d2, d3, d4, d5, d6, d7⟩
  case inr.inr.inr.inr.inr.inr.inr =>
    have E : Hid (insN kind = 0) := Lib.hid (insN_no (by simp only [beq_eq_false_iff_ne] at *; omega))
    go_enter Try.func21, Try.ntmps21
    go_wp2_with fail
    go_ret
    exact ⟨ret_int E.out.symm, rfl⟩
  all_goals
    go_enter Try.func21, Try.ntmps21
    go_wp2_with fail
    go_ret
    exact ⟨ret_int (by decide), rfl⟩

set_option maxHeartbeats 1000000 in
theorem line_any (x : Int) (w : World) (hx1 : -9223372036854775808 ≤ x) (hx2 : x ≤ 9223372036854775807) :
    Calls Try.prog 35 #[.int .i64 x] w fun e w' => e = .returned (.int .i64 (lineF x)) ∧ w = w' := by
  have C1 := Lib.hid (mul_any x 1073741824 w hx1 hx2 (by omega) (by omega))
  obtain ⟨b1, b2⟩ := mulF_bounds x 1073741824
  have C2 := Lib.hid (add_any (mulF x 1073741824) 2147483648 w b1 b2 (by omega) (by omega))
  have E : Hid (sat (mulF x 1073741824 + 2147483648) = lineF x) := Lib.hid rfl
  clear b1 b2 hx1 hx2
  go_enter Try.func35, Try.ntmps35
  go_wp2_with fail
  refine C1.out.mono ?_
  rintro e w' ⟨rfl, rfl⟩
  go_wp2_with fail
  refine C2.out.mono ?_
  rintro e w' ⟨rfl, rfl⟩
  go_wp2_with fail
  go_ret
  exact ⟨ret_int E.out, rfl⟩

def passF (g : Int) (on : Bool) : Int := if on = true then g else 0
theorem passF_yes (g : Int) : passF g true = g := rfl
theorem passF_no (g : Int) : passF g false = 0 := rfl
theorem passed_any (g : Int) (on : Bool) (w : World) :
    Calls Try.prog 41 #[.int .i64 g, .bool on] w fun e w' => e = .returned (.int .i64 (passF g on)) ∧ w = w' := by
  cases on
  all_goals
    go_enter Try.func41, Try.ntmps41
    go_wp2_with fail
    go_ret
    exact ⟨rfl, rfl⟩

set_option maxHeartbeats 2000000 in
theorem cell_any (kind k x y : Int) (w : World) (hk1 : -9223372036854775808 ≤ k) (hk2 : k ≤ 9223372036854775807) (hx1 : -9223372036854775808 ≤ x) (hx2 : x ≤ 9223372036854775807) (hy1 : -9223372036854775808 ≤ y) (hy2 : y ≤ 9223372036854775807) :
    Calls Try.prog 19 #[.int .i64 kind, .int .i64 k, .int .i64 x, .int .i64 y] w fun e w' => e = .returned (.int .i64 (pcell kind k x y)) ∧ w = w' := by
  have M1 := Lib.hid (mul_any x k w hx1 hx2 hk1 hk2)
  have M2 := Lib.hid (mul_any x y w hx1 hx2 hy1 hy2)
  have M3 := Lib.hid (add_any x y w hx1 hx2 hy1 hy2)
  have M4 := Lib.hid (clamp_any x (-4294967296) 4294967296 w)
  have M5 := Lib.hid (line_any x w hx1 hx2)
  have M6 := Lib.hid (clamp_any (lineF x) 0 4294967296 w)
  clear hk1 hk2 hx1 hx2 hy1 hy2
  rcases kinds kind with rfl | rfl | rfl | rfl | rfl | rfl | rfl | ⟨d1, d2, d3, d4, d5, d6, d7⟩
  case inr.inr.inr.inr.inr.inr.inr =>
    have E : Hid (pcell kind k x y = 0) := Lib.hid (by simp only [beq_eq_false_iff_ne] at *; exact pcell_no d1 d2 d3 d4 d5 d6 d7)
    go_enter Try.func19, Try.ntmps19
    go_wp2_with fail
    go_ret
    exact ⟨ret_int E.out.symm, rfl⟩
  · by_cases c : 0 < x
    all_goals
      go_enter Try.func19, Try.ntmps19
      go_wp2_with fail
      all_goals
        go_ret
        exact ⟨ret_int (by first | (rw [pcell_1p c]; done) | (rw [pcell_1p c]; omega) | (rw [pcell_1n (by omega)]; done) | (rw [pcell_1n (by omega)]; omega)), rfl⟩
  · by_cases c : 0 < x
    · have E : Hid (x = pcell 2 k x y) := Lib.hid (pcell_2p c).symm
      go_enter Try.func19, Try.ntmps19
      go_wp2_with fail
      go_ret
      exact ⟨ret_int E.out, rfl⟩
    · have E : Hid (mulF x k = pcell 2 k x y) := Lib.hid (pcell_2n c).symm
      go_enter Try.func19, Try.ntmps19
      go_wp2_with fail
      refine M1.out.mono ?_
      rintro e w' ⟨rfl, rfl⟩
      go_wp2_with fail
      go_ret
      exact ⟨ret_int E.out, rfl⟩
  · go_enter Try.func19, Try.ntmps19
    go_wp2_with fail
    refine M4.out.mono ?_
    rintro e w' ⟨rfl, rfl⟩
    go_wp2_with fail
    go_ret
    exact ⟨ret_int pcell_3.symm, rfl⟩
  · go_enter Try.func19, Try.ntmps19
    go_wp2_with fail
    refine M5.out.mono ?_
    rintro e w' ⟨rfl, rfl⟩
    go_wp2_with fail
    refine M6.out.mono ?_
    rintro e w' ⟨rfl, rfl⟩
    go_wp2_with fail
    go_ret
    exact ⟨ret_int pcell_4.symm, rfl⟩
  · go_enter Try.func19, Try.ntmps19
    go_wp2_with fail
    refine M1.out.mono ?_
    rintro e w' ⟨rfl, rfl⟩
    go_wp2_with fail
    go_ret
    exact ⟨ret_int pcell_5.symm, rfl⟩
  · go_enter Try.func19, Try.ntmps19
    go_wp2_with fail
    refine M3.out.mono ?_
    rintro e w' ⟨rfl, rfl⟩
    go_wp2_with fail
    go_ret
    exact ⟨ret_int pcell_6.symm, rfl⟩
  · go_enter Try.func19, Try.ntmps19
    go_wp2_with fail
    refine M2.out.mono ?_
    rintro e w' ⟨rfl, rfl⟩
    go_wp2_with fail
    go_ret
    exact ⟨ret_int pcell_7.symm, rfl⟩

set_option maxHeartbeats 4000000 in
theorem slope_any (kind k x y g : Int) (w : World) (hk1 : -9223372036854775808 ≤ k) (hk2 : k ≤ 9223372036854775807) (hx1 : -9223372036854775808 ≤ x) (hx2 : x ≤ 9223372036854775807) (hy1 : -9223372036854775808 ≤ y) (hy2 : y ≤ 9223372036854775807) (hg1 : -9223372036854775808 ≤ g) (hg2 : g ≤ 9223372036854775807) :
    Calls Try.prog 30 #[.int .i64 kind, .int .i64 k, .int .i64 x, .int .i64 y, .int .i64 g] w fun e w' => e = .returned (.tuple #[.int .i64 (pslx kind k x y g), .int .i64 (psly kind x g)]) ∧ w = w' := by
  have M1 := Lib.hid (mul_any g k w hg1 hg2 hk1 hk2)
  have M2 := Lib.hid (mul_any g y w hg1 hg2 hy1 hy2)
  have M3 := Lib.hid (mul_any g x w hg1 hg2 hx1 hx2)
  have M4 := Lib.hid (mul_any g 1073741824 w hg1 hg2 (by omega) (by omega))
  have M5 := Lib.hid (line_any x w hx1 hx2)
  have P1 := Lib.hid (passed_any g true w)
  have P2 := Lib.hid (passed_any g false w)
  have P3 := Lib.hid (passed_any (mulF g 1073741824) true w)
  have P4 := Lib.hid (passed_any (mulF g 1073741824) false w)
  clear hk1 hk2 hx1 hx2 hy1 hy2 hg1 hg2
  rcases kinds kind with rfl | rfl | rfl | rfl | rfl | rfl | rfl | ⟨d1, d2, d3, d4, d5, d6, d7⟩
  case inr.inr.inr.inr.inr.inr.inr =>
    have E : Hid (pslx kind k x y g = 0 ∧ psly kind x g = 0) := Lib.hid (by simp only [beq_eq_false_iff_ne] at *; exact ⟨pslx_no d1 d2 d3 d4 d5 d6 d7, psly_no d6 d7⟩)
    go_enter Try.func30, Try.ntmps30
    go_wp2_with fail
    go_ret2
    exact ⟨ret_ints2 E.out.1.symm E.out.2.symm, rfl⟩
  · by_cases c : 0 < x
    · have d : decide (0 < x) = true := decide_eq_true c
      go_enter Try.func30, Try.ntmps30
      go_wp2_with fail
      refine P1.out.mono ?_
      rintro e w' ⟨rfl, rfl⟩
      go_wp2_with fail
      go_ret2
      exact ⟨ret_ints2 (pslx_1p c).symm (psly_no (by decide) (by decide)).symm, rfl⟩
    · have d : decide (0 < x) = false := decide_eq_false c
      go_enter Try.func30, Try.ntmps30
      go_wp2_with fail
      refine P2.out.mono ?_
      rintro e w' ⟨rfl, rfl⟩
      go_wp2_with fail
      go_ret2
      exact ⟨ret_ints2 (pslx_1n (by omega)).symm (psly_no (by decide) (by decide)).symm, rfl⟩
  · by_cases c : 0 < x
    · have E : Hid (g = pslx 2 k x y g) := Lib.hid (pslx_2p c).symm
      go_enter Try.func30, Try.ntmps30
      go_wp2_with fail
      go_ret2
      exact ⟨ret_ints2 E.out (psly_no (by decide) (by decide)).symm, rfl⟩
    · have E : Hid (mulF g k = pslx 2 k x y g) := Lib.hid (pslx_2n c).symm
      go_enter Try.func30, Try.ntmps30
      go_wp2_with fail
      refine M1.out.mono ?_
      rintro e w' ⟨rfl, rfl⟩
      go_wp2_with fail
      go_ret2
      exact ⟨ret_ints2 E.out (psly_no (by decide) (by decide)).symm, rfl⟩
  · by_cases c : -4294967296 < x
    · have dc : decide (-4294967296 < x) = true := decide_eq_true c
      by_cases d : x < 4294967296
      · have dd : decide (x < 4294967296) = true := decide_eq_true d
        go_enter Try.func30, Try.ntmps30
        go_wp2_with fail
        refine P1.out.mono ?_
        rintro e w' ⟨rfl, rfl⟩
        go_wp2_with fail
        go_ret2
        exact ⟨ret_ints2 (pslx_3p c d).symm (psly_no (by decide) (by decide)).symm, rfl⟩
      · have dd : decide (x < 4294967296) = false := decide_eq_false d
        go_enter Try.func30, Try.ntmps30
        go_wp2_with fail
        refine P2.out.mono ?_
        rintro e w' ⟨rfl, rfl⟩
        go_wp2_with fail
        go_ret2
        exact ⟨ret_ints2 (pslx_3n (by omega)).symm (psly_no (by decide) (by decide)).symm, rfl⟩
    · have dc : decide (-4294967296 < x) = false := decide_eq_false c
      go_enter Try.func30, Try.ntmps30
      go_wp2_with fail
      refine P2.out.mono ?_
      rintro e w' ⟨rfl, rfl⟩
      go_wp2_with fail
      go_ret2
      exact ⟨ret_ints2 (pslx_3n (by omega)).symm (psly_no (by decide) (by decide)).symm, rfl⟩
  · obtain ⟨l, hl⟩ : ∃ l, lineF x = l := ⟨_, rfl⟩
    rw [hl] at M5
    have hl' := Lib.hid hl
    clear hl
    by_cases c : 0 < l
    · have dc : decide (0 < l) = true := decide_eq_true c
      by_cases d : l < 4294967296
      · have dd : decide (l < 4294967296) = true := decide_eq_true d
        go_enter Try.func30, Try.ntmps30
        go_wp2_with fail
        refine M5.out.mono ?_
        rintro e w' ⟨rfl, rfl⟩
        go_wp2_with fail
        refine M4.out.mono ?_
        rintro e w' ⟨rfl, rfl⟩
        go_wp2_with fail
        refine P3.out.mono ?_
        rintro e w' ⟨rfl, rfl⟩
        go_wp2_with fail
        go_ret2
        exact ⟨ret_ints2 (pslx_4p (by rw [hl'.out]; exact c) (by rw [hl'.out]; exact d)).symm (psly_no (by decide) (by decide)).symm, rfl⟩
      · have dd : decide (l < 4294967296) = false := decide_eq_false d
        go_enter Try.func30, Try.ntmps30
        go_wp2_with fail
        refine M5.out.mono ?_
        rintro e w' ⟨rfl, rfl⟩
        go_wp2_with fail
        refine M4.out.mono ?_
        rintro e w' ⟨rfl, rfl⟩
        go_wp2_with fail
        refine P4.out.mono ?_
        rintro e w' ⟨rfl, rfl⟩
        go_wp2_with fail
        go_ret2
        exact ⟨ret_ints2 (pslx_4n (by rw [hl'.out]; omega)).symm (psly_no (by decide) (by decide)).symm, rfl⟩
    · have dc : decide (0 < l) = false := decide_eq_false c
      go_enter Try.func30, Try.ntmps30
      go_wp2_with fail
      refine M5.out.mono ?_
      rintro e w' ⟨rfl, rfl⟩
      go_wp2_with fail
      refine M4.out.mono ?_
      rintro e w' ⟨rfl, rfl⟩
      go_wp2_with fail
      refine P4.out.mono ?_
      rintro e w' ⟨rfl, rfl⟩
      go_wp2_with fail
      go_ret2
      exact ⟨ret_ints2 (pslx_4n (by rw [hl'.out]; omega)).symm (psly_no (by decide) (by decide)).symm, rfl⟩
  · have E : Hid (mulF g k = pslx 5 k x y g ∧ 0 = psly 5 x g) := Lib.hid ⟨pslx_5.symm, (psly_no (by decide) (by decide)).symm⟩
    go_enter Try.func30, Try.ntmps30
    go_wp2_with fail
    refine M1.out.mono ?_
    rintro e w' ⟨rfl, rfl⟩
    go_wp2_with fail
    go_ret2
    exact ⟨ret_ints2 E.out.1 E.out.2, rfl⟩
  · have E : Hid (g = pslx 6 k x y g ∧ g = psly 6 x g) := Lib.hid ⟨pslx_6.symm, psly_6.symm⟩
    go_enter Try.func30, Try.ntmps30
    go_wp2_with fail
    go_ret2
    exact ⟨ret_ints2 E.out.1 E.out.2, rfl⟩
  · have E : Hid (mulF g y = pslx 7 k x y g ∧ mulF g x = psly 7 x g) := Lib.hid ⟨pslx_7.symm, psly_7.symm⟩
    go_enter Try.func30, Try.ntmps30
    go_wp2_with fail
    refine M2.out.mono ?_
    rintro e w' ⟨rfl, rfl⟩
    go_wp2_with fail
    refine M3.out.mono ?_
    rintro e w' ⟨rfl, rfl⟩
    go_wp2_with fail
    go_ret2
    exact ⟨ret_ints2 E.out.1 E.out.2, rfl⟩
end Go.Proofs.Ytilocmdanjekhaa
