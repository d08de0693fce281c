/-
  The walk of the statement FixQuotients.
-/
import Derived.Test.YtgeomaaflajchaaAwake01
import Derived.Test.YtgeomaaflajchaaRef01D
import Derived.Test.YtgeomaaflajchaaFixLaws
namespace Go.Proofs.Ytgeomaaflajchaa
open Go.RowKit
set_option linter.unusedVariables false
set_option linter.unusedSimpArgs false

set_option maxHeartbeats 1000000 in
theorem fixQuotients_walk (x y : Int) (w : World) (hx1 : -9223372036854775808 ≤ x) (hx2 : x ≤ 9223372036854775807) (hy1 : -9223372036854775808 ≤ y) (hy2 : y ≤ 9223372036854775807) :
    Calls Try.prog 4 #[.int .i64 x, .int .i64 y] w fun e w' => e = .returned (.bool true) ∧ Below w.heap.size w w' := by
  have C1 := Lib.hid (fun w => div_any x y w hx1 hx2 hy1 hy2)
  have C2 := Lib.hid (fun w => refdiv_any x y w hx1 hx2 hy1 hy2)
  have c3 := fun w => div_any x 4294967296 w hx1 hx2 (by omega) (by omega)
  rw [divF_one x hx1 hx2] at c3
  have C3 := Lib.hid c3
  clear c3
  by_cases c : x = 0
  · subst c
    generalize divF 0 y = z at *
    clear hx1 hx2 hy1 hy2
    go_enter Try.func4, Try.ntmps4
    go_wp2_with fail
    refine (C1.out _).mono ?_
    rintro e w' ⟨rfl, n1, rfl⟩
    go_wp2_with fail
    refine (C2.out _).mono ?_
    rintro e w1 ⟨rfl, hb1⟩
    go_wp2_with fail
    refine (C3.out _).mono ?_
    rintro e w' ⟨rfl, n2, rfl⟩
    go_wp2_with fail
    refine (awake01_any _).mono ?_
    rintro e w2 ⟨rfl, hb2⟩
    go_wp2_with fail
    go_ret
    exact ⟨rfl, (below_drewN' (hb1.mono (by simp)) _).trans (hb2.mono (by have := hb1.size; simp at this ⊢; omega)) |> fun h => (below_drewN' (Below.refl _ _) n1).trans h⟩
  · have c4 := fun w => div_any x x w hx1 hx2 hx1 hx2
    rw [divF_self x c] at c4
    have C4 := Lib.hid c4
    have nx : (x == 0) = false := by rw [beq_eq_false_iff_ne]; exact c
    generalize divF x y = z at *
    clear hx1 hx2 hy1 hy2 c4 c
    go_enter Try.func4, Try.ntmps4
    go_wp2_with fail
    refine (C1.out _).mono ?_
    rintro e w' ⟨rfl, n1, rfl⟩
    go_wp2_with fail
    refine (C2.out _).mono ?_
    rintro e w1 ⟨rfl, hb1⟩
    go_wp2_with fail
    refine (C3.out _).mono ?_
    rintro e w' ⟨rfl, n2, rfl⟩
    go_wp2_with fail
    refine (C4.out _).mono ?_
    rintro e w' ⟨rfl, n3, rfl⟩
    go_wp2_with fail
    refine (awake01_any _).mono ?_
    rintro e w2 ⟨rfl, hb2⟩
    go_wp2_with fail
    go_ret
    exact ⟨rfl, (below_drewN' (hb1.mono (by simp)) _).trans (hb2.mono (by have := hb1.size; simp at this ⊢; omega)) |> fun h => (below_drewN' (Below.refl _ _) n1).trans h⟩
end Go.Proofs.Ytgeomaaflajchaa
