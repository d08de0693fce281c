/-
  The walk of the statement PointBounds.
-/
import Derived.Test.YtilocmdanjekhaaAwake05
namespace Go.Proofs.Ytilocmdanjekhaa
open Go.RowKit
set_option linter.unusedVariables false
set_option linter.unusedSimpArgs false

theorem pcell_b1 {a b : Int} (hab : a ≤ b) (hb : b ≤ 9223372036854775807) : 0 ≤ pcell 1 0 a 0 ∧ pcell 1 0 b 0 ≤ 9223372036854775807 ∧ pcell 1 0 a 0 ≤ pcell 1 0 b 0 := by
  by_cases c : 0 < a
  · rw [pcell_1p c, pcell_1p (by omega)]; omega
  · rw [pcell_1n c]
    by_cases d : 0 < b
    · rw [pcell_1p d]; omega
    · rw [pcell_1n d]; omega
theorem pcell_b3 {a b : Int} (hab : a ≤ b) : -4294967296 ≤ pcell 3 0 a 0 ∧ pcell 3 0 b 0 ≤ 4294967296 ∧ pcell 3 0 a 0 ≤ pcell 3 0 b 0 := by
  rw [pcell_3, pcell_3]
  exact ⟨(clampF_bounds (by omega)).1, (clampF_bounds (by omega)).2, clampF_mono hab (by omega)⟩
theorem lineF_mono {a b : Int} (hab : a ≤ b) : lineF a ≤ lineF b := by
  unfold lineF
  have := mulF_mono a b 1073741824 hab (by omega)
  exact sat_mono (by omega)
theorem pcell_b4 {a b : Int} (hab : a ≤ b) : 0 ≤ pcell 4 0 a 0 ∧ pcell 4 0 b 0 ≤ 4294967296 ∧ pcell 4 0 a 0 ≤ pcell 4 0 b 0 := by
  rw [pcell_4, pcell_4]
  exact ⟨(clampF_bounds (by omega)).1, (clampF_bounds (by omega)).2, clampF_mono (lineF_mono hab) (by omega)⟩

set_option maxHeartbeats 4000000 in
theorem pointBounds_walk (x y : Int) (w : World) (hx1 : -9223372036854775808 ≤ x) (hx2 : x ≤ 9223372036854775807) (hy1 : -9223372036854775808 ≤ y) (hy2 : y ≤ 9223372036854775807) :
    Calls Try.prog 6 #[.int .i64 x, .int .i64 y] w fun e w' => e = .returned (.bool true) ∧ Below w.heap.size w w' := by
  obtain ⟨a, b, hs⟩ : ∃ a b, (x < y ∧ a = x ∧ b = y) ∨ (x = y ∧ a = x ∧ b = x) ∨ (y < x ∧ a = y ∧ b = x) := by
    rcases Int.lt_trichotomy x y with h | h | h
    · exact ⟨x, y, .inl ⟨h, rfl, rfl⟩⟩
    · exact ⟨x, x, .inr (.inl ⟨h, rfl, rfl⟩)⟩
    · exact ⟨y, x, .inr (.inr ⟨h, rfl, rfl⟩)⟩
  have hab : a ≤ b := by omega
  have C := Lib.hid (fun kind w => cell_any kind 0 a 0 w (by omega) (by omega) (by omega) (by omega) (by omega) (by omega))
  have D := Lib.hid (fun kind w => cell_any kind 0 b 0 w (by omega) (by omega) (by omega) (by omega) (by omega) (by omega))
  have B1 := pcell_b1 hab (by omega)
  have B3 := pcell_b3 hab
  have B4 := pcell_b4 hab
  clear hx1 hx2 hy1 hy2 hab
  have C1 := Lib.hid (C.out 1)
  have C3 := Lib.hid (C.out 3)
  have C4 := Lib.hid (C.out 4)
  have D1 := Lib.hid (D.out 1)
  have D3 := Lib.hid (D.out 3)
  have D4 := Lib.hid (D.out 4)
  clear C D
  generalize pcell 1 0 a 0 = c1 at *
  generalize pcell 1 0 b 0 = d1 at *
  generalize pcell 3 0 a 0 = c3 at *
  generalize pcell 3 0 b 0 = d3 at *
  generalize pcell 4 0 a 0 = c4 at *
  generalize pcell 4 0 b 0 = d4 at *
  have e1 : decide (c1 < 0) = false := decide_eq_false (by omega)
  have e2 : decide (9223372036854775807 < d1) = false := decide_eq_false (by omega)
  have e3 : decide (d1 < c1) = false := decide_eq_false (by omega)
  have e4 : decide (c3 < -4294967296) = false := decide_eq_false (by omega)
  have e5 : decide (4294967296 < d3) = false := decide_eq_false (by omega)
  have e6 : decide (d3 < c3) = false := decide_eq_false (by omega)
  have e7 : decide (c4 < 0) = false := decide_eq_false (by omega)
  have e8 : decide (4294967296 < d4) = false := decide_eq_false (by omega)
  have e9 : decide (d4 < c4) = false := decide_eq_false (by omega)
  clear B1 B3 B4
  have i0 : ∀ w, (Instr.index 49 (.agg #[.int .i64 1, .int .i64 3, .int .i64 4]) (.int .i64 0)).run Try.prog w = .ok (.int .i64 1) w := fun _ => by kernel_rfl
  have i1 : ∀ w, (Instr.index 49 (.agg #[.int .i64 1, .int .i64 3, .int .i64 4]) (.int .i64 1)).run Try.prog w = .ok (.int .i64 3) w := fun _ => by kernel_rfl
  have i2 : ∀ w, (Instr.index 49 (.agg #[.int .i64 1, .int .i64 3, .int .i64 4]) (.int .i64 2)).run Try.prog w = .ok (.int .i64 4) w := fun _ => by kernel_rfl
  rcases hs with ⟨hc, rfl, rfl⟩ | ⟨hc, rfl, rfl⟩ | ⟨hc, rfl, rfl⟩
  case' inr.inl => subst hc
  all_goals
    go_enter Try.func6, Try.ntmps6
    go_wp2_with fail
    go_loopw [20] (fun i wr => ∃ k : Nat, k ≤ 3 ∧ i = .int .i64 k ∧ wr = w) (fun i _ => 3 - (intOf i).toNat)
    case atStart => exact ⟨0, by omega, rfl, rfl⟩
    case round =>
      obtain ⟨k, hk, rfl, rfl⟩ := hrel
      have : k = 0 ∨ k = 1 ∨ k = 2 ∨ k = 3 := by omega
      rcases this with rfl | rfl | rfl | rfl
      · go_wp2_with fail
        refine (C1.out _).mono ?_
        rintro e w' ⟨rfl, rfl⟩
        go_wp2_with fail
        refine (D1.out _).mono ?_
        rintro e w' ⟨rfl, rfl⟩
        go_wp2_with fail
        go_roundw
        case rel => exact ⟨1, by omega, by go_num, trivial⟩
        case measure => (simp [intOf]; try omega)
      · go_wp2_with fail
        refine (C3.out _).mono ?_
        rintro e w' ⟨rfl, rfl⟩
        go_wp2_with fail
        refine (D3.out _).mono ?_
        rintro e w' ⟨rfl, rfl⟩
        go_wp2_with fail
        go_roundw
        case rel => exact ⟨2, by omega, by go_num, trivial⟩
        case measure => (simp [intOf]; try omega)
      · go_wp2_with fail
        refine (C4.out _).mono ?_
        rintro e w' ⟨rfl, rfl⟩
        go_wp2_with fail
        refine (D4.out _).mono ?_
        rintro e w' ⟨rfl, rfl⟩
        go_wp2_with fail
        go_roundw
        case rel => exact ⟨3, by omega, by go_num, trivial⟩
        case measure => (simp [intOf]; try omega)
      · go_wp2_with fail
        refine (awake05_any _).mono ?_
        rintro e w2 ⟨rfl, hb2⟩
        go_wp2_with fail
        go_ret
        exact ⟨rfl, hb2⟩
end Go.Proofs.Ytilocmdanjekhaa
