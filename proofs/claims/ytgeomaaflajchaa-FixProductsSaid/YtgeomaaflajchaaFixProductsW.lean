/-
  The walk of the statement FixProducts.
-/
import Derived.Test.YtgeomaaflajchaaAwake01
import Derived.Test.YtgeomaaflajchaaRef01M
import Derived.Test.YtgeomaaflajchaaFixLaws
namespace Go.Proofs.Ytgeomaaflajchaa
open Go.RowKit
set_option linter.unusedVariables false
set_option linter.unusedSimpArgs false

set_option maxHeartbeats 1000000 in
theorem fixProducts_walk (x y : Int) (w : World) (hx1 : -9223372036854775808 ≤ x) (hx2 : x ≤ 9223372036854775807) (hy1 : -9223372036854775808 ≤ y) (hy2 : y ≤ 9223372036854775807) :
    Calls Try.prog 3 #[.int .i64 x, .int .i64 y] w fun e w' => e = .returned (.bool true) ∧ Below w.heap.size w w' := by
  have C1 := Lib.hid (fun w => mul_any x y w hx1 hx2 hy1 hy2)
  have C2 := Lib.hid (fun w => refmul_any x y w hx1 hx2 hy1 hy2)
  have c3 := fun w => mul_any y x w hy1 hy2 hx1 hx2
  rw [mulF_comm x y] at c3
  have C3 := Lib.hid c3
  have c4 := fun w => mul_any x 4294967296 w hx1 hx2 (by omega) (by omega)
  rw [mulF_one x hx1 hx2] at c4
  have C4 := Lib.hid c4
  have c5 := fun w => mul_any x 0 w hx1 hx2 (by omega) (by omega)
  rw [mulF_zero x] at c5
  have C5 := Lib.hid c5
  clear c3 c4 c5
  generalize mulF x y = z at *
  clear hx1 hx2 hy1 hy2
  go_enter Try.func3, Try.ntmps3
  go_wp2_with fail
  refine (C1.out _).mono ?_
  rintro e w' ⟨rfl, rfl⟩
  go_wp2_with fail
  refine (C2.out _).mono ?_
  rintro e w1 ⟨rfl, hb1⟩
  go_wp2_with fail
  refine (C3.out _).mono ?_
  rintro e w' ⟨rfl, rfl⟩
  go_wp2_with fail
  refine (C4.out _).mono ?_
  rintro e w' ⟨rfl, rfl⟩
  go_wp2_with fail
  refine (C5.out _).mono ?_
  rintro e w' ⟨rfl, rfl⟩
  go_wp2_with fail
  refine (awake01_any _).mono ?_
  rintro e w2 ⟨rfl, hb2⟩
  go_wp2_with fail
  go_ret
  exact ⟨rfl, hb1.trans (hb2.mono hb1.size)⟩
end Go.Proofs.Ytgeomaaflajchaa
