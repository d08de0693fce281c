/-
  Contracts of the reference of layer 5: Ins, Cell, Slope.
-/
import Derived.Test.YtilocmdanjekhaaPtW
import Derived.Test.YtilocmdanjekhaaRef01M
namespace Go.Proofs.Ytilocmdanjekhaa
open Go.RowKit
set_option linter.unusedVariables false
set_option linter.unusedSimpArgs false

set_option maxHeartbeats 1000000 in
theorem refins_any (kind : Int) (w : World) : Calls Try.prog 25 #[.int .i64 kind] w fun e w' => e = .returned (.int .i64 (insN kind)) ∧ w = w' := by
  by_cases c : 1 ≤ kind
  · have dc : decide (1 ≤ kind) = true := decide_eq_true c
    by_cases d : kind ≤ 5
    · have dd : decide (kind ≤ 5) = true := decide_eq_true d
      have E : Hid (1 = insN kind) := Lib.hid (insN_one ⟨c, d⟩).symm
      go_enter Try.func25, Try.ntmps25
      go_wp2_with fail
      go_ret
      exact ⟨ret_int E.out, rfl⟩
    · have dd : decide (kind ≤ 5) = false := decide_eq_false d
      by_cases k6 : kind = 6
      · subst k6
        go_enter Try.func25, Try.ntmps25
        go_wp2_with fail
        go_ret
        exact ⟨ret_int (by decide), rfl⟩
      · have d6 : (kind == 6) = false := beq_eq_false_iff_ne.2 k6
        by_cases k7 : kind = 7
        · subst k7
          go_enter Try.func25, Try.ntmps25
          go_wp2_with fail
          go_ret
          exact ⟨ret_int (by decide), rfl⟩
        · have d7 : (kind == 7) = false := beq_eq_false_iff_ne.2 k7
          have E : Hid (0 = insN kind) := Lib.hid (insN_no (by omega)).symm
          clear k6 k7
          go_enter Try.func25, Try.ntmps25
          go_wp2_with fail
          go_ret
          exact ⟨ret_int E.out, rfl⟩
  · have dc : decide (1 ≤ kind) = false := decide_eq_false c
    have d6 : (kind == 6) = false := beq_eq_false_iff_ne.2 (by omega)
    have d7 : (kind == 7) = false := beq_eq_false_iff_ne.2 (by omega)
    have E : Hid (0 = insN kind) := Lib.hid (insN_no (by omega)).symm
    go_enter Try.func25, Try.ntmps25
    go_wp2_with fail
    go_ret
    exact ⟨ret_int E.out, rfl⟩

set_option maxHeartbeats 1000000 in
theorem refmul5_any (x y : Int) (w : World) (hx1 : -9223372036854775808 ≤ x) (hx2 : x ≤ 9223372036854775807) (hy1 : -9223372036854775808 ≤ y) (hy2 : y ≤ 9223372036854775807) :
    Calls Try.prog 27 #[.int .i64 x, .int .i64 y] w fun e w' => e = .returned (.int .i64 (mulF x y)) ∧ Below w.heap.size w w' := by
  have C1 := Lib.hid (refmul_any x y w hx1 hx2 hy1 hy2)
  clear hx1 hx2 hy1 hy2
  go_enter Try.func27, Try.ntmps27
  go_wp2_with fail
  refine C1.out.mono ?_
  rintro e w' ⟨rfl, hb⟩
  go_wp2_with fail
  go_ret
  exact ⟨rfl, hb⟩

set_option maxHeartbeats 2000000 in
theorem refcell_any (kind k x y : Int) (w : World) (hk1 : -9223372036854775808 ≤ k) (hk2 : k ≤ 9223372036854775807) (hx1 : -9223372036854775808 ≤ x) (hx2 : x ≤ 9223372036854775807) (hy1 : -9223372036854775808 ≤ y) (hy2 : y ≤ 9223372036854775807) :
    Calls Try.prog 12 #[.int .i64 kind, .int .i64 k, .int .i64 x, .int .i64 y] w fun e w' => e = .returned (.int .i64 (pcell kind k x y)) ∧ Below w.heap.size w w' := by
  have M1 := Lib.hid (refmul5_any x k w hx1 hx2 hk1 hk2)
  have M2 := Lib.hid (refmul5_any x y w hx1 hx2 hy1 hy2)
  have M3 := Lib.hid (refadd_any x y w hx1 hx2 hy1 hy2)
  have M4 := Lib.hid (refmul5_any x 1073741824 w hx1 hx2 (by omega) (by omega))
  obtain ⟨b1, b2⟩ := mulF_bounds x 1073741824
  have M5 := Lib.hid (fun w => refadd_any (mulF x 1073741824) 2147483648 w b1 b2 (by omega) (by omega))
  have eL : sat (mulF x 1073741824 + 2147483648) = lineF x := rfl
  rw [eL] at M5
  clear eL b1 b2 hk1 hk2 hx1 hx2 hy1 hy2
  rcases kinds kind with rfl | rfl | rfl | rfl | rfl | rfl | rfl | ⟨d1, d2, d3, d4, d5, d6, d7⟩
  case inr.inr.inr.inr.inr.inr.inr =>
    have E : Hid (pcell kind k x y = 0) := Lib.hid (by simp only [beq_eq_false_iff_ne] at *; exact pcell_no d1 d2 d3 d4 d5 d6 d7)
    go_enter Try.func12, Try.ntmps12
    go_wp2_with fail
    go_ret
    exact ⟨ret_int E.out.symm, Below.refl _ _⟩
  · by_cases c : 0 < x
    · have E : Hid (x = pcell 1 k x y) := Lib.hid (pcell_1p c).symm
      go_enter Try.func12, Try.ntmps12
      go_wp2_with fail
      go_ret
      exact ⟨ret_int E.out, Below.refl _ _⟩
    · have E : Hid (0 = pcell 1 k x y) := Lib.hid (pcell_1n c).symm
      go_enter Try.func12, Try.ntmps12
      go_wp2_with fail
      go_ret
      exact ⟨ret_int E.out, Below.refl _ _⟩
  · by_cases c : 0 < x
    · have E : Hid (x = pcell 2 k x y) := Lib.hid (pcell_2p c).symm
      go_enter Try.func12, Try.ntmps12
      go_wp2_with fail
      go_ret
      exact ⟨ret_int E.out, Below.refl _ _⟩
    · have E : Hid (mulF x k = pcell 2 k x y) := Lib.hid (pcell_2n c).symm
      go_enter Try.func12, Try.ntmps12
      go_wp2_with fail
      refine (M1.out).mono ?_
      rintro e w1 ⟨rfl, hb1⟩
      go_wp2_with fail
      go_ret
      exact ⟨ret_int E.out, hb1⟩
  · by_cases c : 4294967296 < x
    · have E : Hid (4294967296 = pcell 3 k x y) := Lib.hid (by rw [pcell_3]; unfold clampF; rw [if_pos c])
      go_enter Try.func12, Try.ntmps12
      go_wp2_with fail
      go_ret
      exact ⟨ret_int E.out, Below.refl _ _⟩
    · by_cases d : x < -4294967296
      · have E : Hid (-4294967296 = pcell 3 k x y) := Lib.hid (by rw [pcell_3]; unfold clampF; rw [if_neg c, if_pos d])
        go_enter Try.func12, Try.ntmps12
        go_wp2_with fail
        go_ret
        exact ⟨ret_int E.out, Below.refl _ _⟩
      · have E : Hid (x = pcell 3 k x y) := Lib.hid (by rw [pcell_3]; unfold clampF; rw [if_neg c, if_neg d])
        go_enter Try.func12, Try.ntmps12
        go_wp2_with fail
        go_ret
        exact ⟨ret_int E.out, Below.refl _ _⟩
  · obtain ⟨l, hl⟩ : ∃ l, lineF x = l := ⟨_, rfl⟩
    rw [hl] at M5
    by_cases c : 4294967296 < l
    · have E : Hid (4294967296 = pcell 4 k x y) := Lib.hid (by rw [pcell_4, hl]; unfold clampF; rw [if_pos c])
      go_enter Try.func12, Try.ntmps12
      go_wp2_with fail
      refine (M4.out).mono ?_
      rintro e w1 ⟨rfl, hb1⟩
      go_wp2_with fail
      refine (M5.out _).mono ?_
      rintro e w2 ⟨rfl, rfl⟩
      go_wp2_with fail
      go_ret
      exact ⟨ret_int E.out, hb1⟩
    · by_cases d : l < 0
      · have E : Hid (0 = pcell 4 k x y) := Lib.hid (by rw [pcell_4, hl]; unfold clampF; rw [if_neg c, if_pos d])
        go_enter Try.func12, Try.ntmps12
        go_wp2_with fail
        refine (M4.out).mono ?_
        rintro e w1 ⟨rfl, hb1⟩
        go_wp2_with fail
        refine (M5.out _).mono ?_
        rintro e w2 ⟨rfl, rfl⟩
        go_wp2_with fail
        go_ret
        exact ⟨ret_int E.out, hb1⟩
      · have E : Hid (l = pcell 4 k x y) := Lib.hid (by rw [pcell_4, hl]; unfold clampF; rw [if_neg c, if_neg d])
        go_enter Try.func12, Try.ntmps12
        go_wp2_with fail
        refine (M4.out).mono ?_
        rintro e w1 ⟨rfl, hb1⟩
        go_wp2_with fail
        refine (M5.out _).mono ?_
        rintro e w2 ⟨rfl, rfl⟩
        go_wp2_with fail
        go_ret
        exact ⟨ret_int E.out, hb1⟩
  · have E : Hid (mulF x k = pcell 5 k x y) := Lib.hid pcell_5.symm
    go_enter Try.func12, Try.ntmps12
    go_wp2_with fail
    refine (M1.out).mono ?_
    rintro e w1 ⟨rfl, hb1⟩
    go_wp2_with fail
    go_ret
    exact ⟨ret_int E.out, hb1⟩
  · have E : Hid (sat (x + y) = pcell 6 k x y) := Lib.hid pcell_6.symm
    go_enter Try.func12, Try.ntmps12
    go_wp2_with fail
    refine (M3.out).mono ?_
    rintro e w1 ⟨rfl, rfl⟩
    go_wp2_with fail
    go_ret
    exact ⟨ret_int E.out, Below.refl _ _⟩
  · have E : Hid (mulF x y = pcell 7 k x y) := Lib.hid pcell_7.symm
    go_enter Try.func12, Try.ntmps12
    go_wp2_with fail
    refine (M2.out).mono ?_
    rintro e w1 ⟨rfl, hb1⟩
    go_wp2_with fail
    go_ret
    exact ⟨ret_int E.out, hb1⟩

set_option maxHeartbeats 4000000 in
theorem refslope_any (kind k x y g : Int) (w : World) (hk1 : -9223372036854775808 ≤ k) (hk2 : k ≤ 9223372036854775807) (hx1 : -9223372036854775808 ≤ x) (hx2 : x ≤ 9223372036854775807) (hy1 : -9223372036854775808 ≤ y) (hy2 : y ≤ 9223372036854775807) (hg1 : -9223372036854775808 ≤ g) (hg2 : g ≤ 9223372036854775807) :
    Calls Try.prog 17 #[.int .i64 kind, .int .i64 k, .int .i64 x, .int .i64 y, .int .i64 g] w fun e w' => e = .returned (.tuple #[.int .i64 (pslx kind k x y g), .int .i64 (psly kind x g)]) ∧ Below w.heap.size w w' := by
  have M1 := Lib.hid (refmul5_any g k w hg1 hg2 hk1 hk2)
  have M2 := Lib.hid (refmul5_any g y w hg1 hg2 hy1 hy2)
  have M3 := Lib.hid (fun w => refmul5_any g x w hg1 hg2 hx1 hx2)
  have M6 := Lib.hid (fun w => refmul5_any g 1073741824 w hg1 hg2 (by omega) (by omega))
  have M4 := Lib.hid (refmul5_any x 1073741824 w hx1 hx2 (by omega) (by omega))
  obtain ⟨b1, b2⟩ := mulF_bounds x 1073741824
  have M5 := Lib.hid (fun w => refadd_any (mulF x 1073741824) 2147483648 w b1 b2 (by omega) (by omega))
  have eL : sat (mulF x 1073741824 + 2147483648) = lineF x := rfl
  rw [eL] at M5
  clear eL b1 b2 hk1 hk2 hx1 hx2 hy1 hy2 hg1 hg2
  rcases kinds kind with rfl | rfl | rfl | rfl | rfl | rfl | rfl | ⟨d1, d2, d3, d4, d5, d6, d7⟩
  case inr.inr.inr.inr.inr.inr.inr =>
    have E : Hid (pslx kind k x y g = 0 ∧ psly kind x g = 0) := Lib.hid (by simp only [beq_eq_false_iff_ne] at *; exact ⟨pslx_no d1 d2 d3 d4 d5 d6 d7, psly_no d6 d7⟩)
    go_enter Try.func17, Try.ntmps17
    go_wp2_with fail
    go_ret2
    exact ⟨ret_ints2 E.out.1.symm E.out.2.symm, Below.refl _ _⟩
  · by_cases c : 0 < x
    · have E : Hid (g = pslx 1 k x y g ∧ 0 = psly 1 x g) := Lib.hid ⟨(pslx_1p c).symm, (psly_no (by decide) (by decide)).symm⟩
      go_enter Try.func17, Try.ntmps17
      go_wp2_with fail
      go_ret2
      exact ⟨ret_ints2 E.out.1 E.out.2, Below.refl _ _⟩
    · have E : Hid (0 = pslx 1 k x y g ∧ 0 = psly 1 x g) := Lib.hid ⟨(pslx_1n c).symm, (psly_no (by decide) (by decide)).symm⟩
      go_enter Try.func17, Try.ntmps17
      go_wp2_with fail
      go_ret2
      exact ⟨ret_ints2 E.out.1 E.out.2, Below.refl _ _⟩
  · by_cases c : 0 < x
    · have E : Hid (g = pslx 2 k x y g ∧ 0 = psly 2 x g) := Lib.hid ⟨(pslx_2p c).symm, (psly_no (by decide) (by decide)).symm⟩
      go_enter Try.func17, Try.ntmps17
      go_wp2_with fail
      go_ret2
      exact ⟨ret_ints2 E.out.1 E.out.2, Below.refl _ _⟩
    · have E : Hid (mulF g k = pslx 2 k x y g ∧ 0 = psly 2 x g) := Lib.hid ⟨(pslx_2n c).symm, (psly_no (by decide) (by decide)).symm⟩
      go_enter Try.func17, Try.ntmps17
      go_wp2_with fail
      refine (M1.out).mono ?_
      rintro e w1 ⟨rfl, hb1⟩
      go_wp2_with fail
      go_ret2
      exact ⟨ret_ints2 E.out.1 E.out.2, hb1⟩
  · by_cases c : x ≤ -4294967296
    · have dc : decide (x ≤ -4294967296) = true := decide_eq_true c
      have E : Hid (0 = pslx 3 k x y g ∧ 0 = psly 3 x g) := Lib.hid ⟨(pslx_3n (by omega)).symm, (psly_no (by decide) (by decide)).symm⟩
      go_enter Try.func17, Try.ntmps17
      go_wp2_with fail
      go_ret2
      exact ⟨ret_ints2 E.out.1 E.out.2, Below.refl _ _⟩
    · have dc : decide (x ≤ -4294967296) = false := decide_eq_false c
      by_cases d : 4294967296 ≤ x
      · have dd : decide (4294967296 ≤ x) = true := decide_eq_true d
        have E : Hid (0 = pslx 3 k x y g ∧ 0 = psly 3 x g) := Lib.hid ⟨(pslx_3n (by omega)).symm, (psly_no (by decide) (by decide)).symm⟩
        go_enter Try.func17, Try.ntmps17
        go_wp2_with fail
        go_ret2
        exact ⟨ret_ints2 E.out.1 E.out.2, Below.refl _ _⟩
      · have dd : decide (4294967296 ≤ x) = false := decide_eq_false d
        have E : Hid (g = pslx 3 k x y g ∧ 0 = psly 3 x g) := Lib.hid ⟨(pslx_3p (by omega) (by omega)).symm, (psly_no (by decide) (by decide)).symm⟩
        go_enter Try.func17, Try.ntmps17
        go_wp2_with fail
        go_ret2
        exact ⟨ret_ints2 E.out.1 E.out.2, Below.refl _ _⟩
  · obtain ⟨l, hl⟩ : ∃ l, lineF x = l := ⟨_, rfl⟩
    rw [hl] at M5
    by_cases c : l ≤ 0
    · have dc : decide (l ≤ 0) = true := decide_eq_true c
      have E : Hid (0 = pslx 4 k x y g ∧ 0 = psly 4 x g) := Lib.hid ⟨(pslx_4n (by rw [hl]; omega)).symm, (psly_no (by decide) (by decide)).symm⟩
      clear hl
      go_enter Try.func17, Try.ntmps17
      go_wp2_with fail
      refine (M4.out).mono ?_
      rintro e w1 ⟨rfl, hb1⟩
      go_wp2_with fail
      refine (M5.out _).mono ?_
      rintro e w2 ⟨rfl, rfl⟩
      go_wp2_with fail
      go_ret2
      exact ⟨ret_ints2 E.out.1 E.out.2, hb1⟩
    · have dc : decide (l ≤ 0) = false := decide_eq_false c
      by_cases d : 4294967296 ≤ l
      · have dd : decide (4294967296 ≤ l) = true := decide_eq_true d
        have E : Hid (0 = pslx 4 k x y g ∧ 0 = psly 4 x g) := Lib.hid ⟨(pslx_4n (by rw [hl]; omega)).symm, (psly_no (by decide) (by decide)).symm⟩
        clear hl
        go_enter Try.func17, Try.ntmps17
        go_wp2_with fail
        refine (M4.out).mono ?_
        rintro e w1 ⟨rfl, hb1⟩
        go_wp2_with fail
        refine (M5.out _).mono ?_
        rintro e w2 ⟨rfl, rfl⟩
        go_wp2_with fail
        go_ret2
        exact ⟨ret_ints2 E.out.1 E.out.2, hb1⟩
      · have dd : decide (4294967296 ≤ l) = false := decide_eq_false d
        have E : Hid (mulF g 1073741824 = pslx 4 k x y g ∧ 0 = psly 4 x g) := Lib.hid ⟨(pslx_4p (by rw [hl]; omega) (by rw [hl]; omega)).symm, (psly_no (by decide) (by decide)).symm⟩
        clear hl
        go_enter Try.func17, Try.ntmps17
        go_wp2_with fail
        refine (M4.out).mono ?_
        rintro e w1 ⟨rfl, hb1⟩
        go_wp2_with fail
        refine (M5.out _).mono ?_
        rintro e w2 ⟨rfl, rfl⟩
        go_wp2_with fail
        refine (M6.out _).mono ?_
        rintro e w3 ⟨rfl, hb3⟩
        go_wp2_with fail
        go_ret2
        exact ⟨ret_ints2 E.out.1 E.out.2, hb1.trans (hb3.mono hb1.size)⟩
  · have E : Hid (mulF g k = pslx 5 k x y g ∧ 0 = psly 5 x g) := Lib.hid ⟨pslx_5.symm, (psly_no (by decide) (by decide)).symm⟩
    go_enter Try.func17, Try.ntmps17
    go_wp2_with fail
    refine (M1.out).mono ?_
    rintro e w1 ⟨rfl, hb1⟩
    go_wp2_with fail
    go_ret2
    exact ⟨ret_ints2 E.out.1 E.out.2, hb1⟩
  · have E : Hid (g = pslx 6 k x y g ∧ g = psly 6 x g) := Lib.hid ⟨pslx_6.symm, psly_6.symm⟩
    go_enter Try.func17, Try.ntmps17
    go_wp2_with fail
    go_ret2
    exact ⟨ret_ints2 E.out.1 E.out.2, Below.refl _ _⟩
  · have E : Hid (mulF g y = pslx 7 k x y g ∧ mulF g x = psly 7 x g) := Lib.hid ⟨pslx_7.symm, psly_7.symm⟩
    go_enter Try.func17, Try.ntmps17
    go_wp2_with fail
    refine (M2.out).mono ?_
    rintro e w1 ⟨rfl, hb1⟩
    go_wp2_with fail
    refine (M3.out _).mono ?_
    rintro e w2 ⟨rfl, hb2⟩
    go_wp2_with fail
    go_ret2
    exact ⟨ret_ints2 E.out.1 E.out.2, hb1.trans (hb2.mono hb1.size)⟩
end Go.Proofs.Ytilocmdanjekhaa
