/-
  The walk of the statement FixSums.
-/
import Derived.Test.YtgeomaaflajchaaAwake01
import Derived.Test.YtgeomaaflajchaaRef01W
namespace Go.Proofs.Ytgeomaaflajchaa
open Go.RowKit
set_option linter.unusedVariables false
set_option linter.unusedSimpArgs false

set_option maxHeartbeats 1000000 in
theorem fixSums_walk (x y : Int) (w : World) (hx1 : -9223372036854775808 ≤ x) (hx2 : x ≤ 9223372036854775807) (hy1 : -9223372036854775808 ≤ y) (hy2 : y ≤ 9223372036854775807) :
    Calls Try.prog 5 #[.int .i64 x, .int .i64 y] w fun e w' => e = .returned (.bool true) ∧ Below w.heap.size w w' := by
  have C1 := Lib.hid (fun w => add_any x y w hx1 hx2 hy1 hy2)
  have C2 := Lib.hid (fun w => refadd_any x y w hx1 hx2 hy1 hy2)
  have c3 := fun w => add_any y x w hy1 hy2 hx1 hx2
  rw [Int.add_comm y x] at c3
  have C3 := Lib.hid c3
  have c4 := fun w => sub_any x x w hx1 hx2 hx1 hx2
  rw [Int.sub_self, sat_in 0 (by omega) (by omega)] at c4
  have C4 := Lib.hid c4
  have C5 := Lib.hid (fun w => sub_any x y w hx1 hx2 hy1 hy2)
  clear c3 c4
  generalize sat (x + y) = z at *
  by_cases c : y = -9223372036854775808
  · subst c
    by_cases cx : x < 0
    · have c5 := C5.out
      rw [show x - -9223372036854775808 = x + 4611686018427387904 + 4611686018427387904 from by omega, sat_in (x + 4611686018427387904 + 4611686018427387904) (by omega) (by omega)] at c5
      have D5 := Lib.hid c5
      clear c5
      go_enter Try.func5, Try.ntmps5
      go_wp2_with fail
      refine (C1.out _).mono ?_
      rintro e w' ⟨rfl, rfl⟩
      go_wp2_with fail
      refine (C2.out _).mono ?_
      rintro e w1 ⟨rfl, rfl⟩
      go_wp2_with fail
      refine (C3.out _).mono ?_
      rintro e w' ⟨rfl, rfl⟩
      go_wp2_with fail
      refine (C4.out _).mono ?_
      rintro e w' ⟨rfl, rfl⟩
      go_wp2_with fail
      refine (D5.out _).mono ?_
      rintro e w' ⟨rfl, rfl⟩
      go_wp2_with fail
      refine (awake01_any _).mono ?_
      rintro e w2 ⟨rfl, hb2⟩
      go_wp2_with fail
      go_ret
      exact ⟨rfl, hb2⟩
    · have c5 := C5.out
      rw [sat_hi (x - -9223372036854775808) (by omega)] at c5
      have D5 := Lib.hid c5
      clear c5
      go_enter Try.func5, Try.ntmps5
      go_wp2_with fail
      refine (C1.out _).mono ?_
      rintro e w' ⟨rfl, rfl⟩
      go_wp2_with fail
      refine (C2.out _).mono ?_
      rintro e w1 ⟨rfl, rfl⟩
      go_wp2_with fail
      refine (C3.out _).mono ?_
      rintro e w' ⟨rfl, rfl⟩
      go_wp2_with fail
      refine (C4.out _).mono ?_
      rintro e w' ⟨rfl, rfl⟩
      go_wp2_with fail
      refine (D5.out _).mono ?_
      rintro e w' ⟨rfl, rfl⟩
      go_wp2_with fail
      refine (awake01_any _).mono ?_
      rintro e w2 ⟨rfl, hb2⟩
      go_wp2_with fail
      go_ret
      exact ⟨rfl, hb2⟩
  · have ny : (y == -9223372036854775808) = false := by rw [beq_eq_false_iff_ne]; exact c
    have ny2 : (y != -9223372036854775808) = true := by rw [bne_iff_ne]; exact c
    have c6 := fun w => refadd_any x (-y) w hx1 hx2 (by omega) (by omega)
    rw [show x + -y = x - y from by omega] at c6
    have C6 := Lib.hid c6
    have hn : -y ≤ 9223372036854775807 := by omega
    clear c6 c
    generalize sat (x - y) = d at *
    go_enter Try.func5, Try.ntmps5
    go_wp2_with fail
    refine (C1.out _).mono ?_
    rintro e w' ⟨rfl, rfl⟩
    go_wp2_with fail
    refine (C2.out _).mono ?_
    rintro e w1 ⟨rfl, rfl⟩
    go_wp2_with fail
    refine (C3.out _).mono ?_
    rintro e w' ⟨rfl, rfl⟩
    go_wp2_with fail
    refine (C4.out _).mono ?_
    rintro e w' ⟨rfl, rfl⟩
    go_wp2_with fail
    refine (C5.out _).mono ?_
    rintro e w' ⟨rfl, rfl⟩
    go_wp2_with fail
    refine (C6.out _).mono ?_
    rintro e w' ⟨rfl, rfl⟩
    go_wp2_with fail
    refine (awake01_any _).mono ?_
    rintro e w2 ⟨rfl, hb2⟩
    go_wp2_with fail
    go_ret
    exact ⟨rfl, hb2⟩
end Go.Proofs.Ytgeomaaflajchaa
