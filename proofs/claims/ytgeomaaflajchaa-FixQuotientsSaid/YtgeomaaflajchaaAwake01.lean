/-
  The fixed answer of the statements of layer 1: the program gives it.
-/
import Derived.Test.YtgeomaaflajchaaFixS
namespace Go.Proofs.Ytgeomaaflajchaa
open Go.RowKit
set_option linter.unusedVariables false
set_option linter.unusedSimpArgs false

theorem below_drewN' {B : Nat} {a w : World} (h : Below B a w) (n : Nat) : Below B a (w.drewN n) := h.trans ⟨rfl, rfl, rfl, Nat.le_refl _, fun _ _ => rfl⟩

theorem newInts (W : World) (t : TypeId) : IntsAt (W.alloc (.cells #[.int .i64 1, .int .i64 2, .int .i64 3] t)) (some ⟨W.heap.size, 0, none⟩) 3 [1, 2, 3] := by
  refine ⟨rfl, by omega, by intro n hn; simp at hn; omega, .inr ⟨W.heap.size, 0, rfl, ?_⟩⟩
  intro j hj
  rcases j with _ | _ | _ | j
  · simp [World.cell?_alloc_new]
  · simp [World.cell?_alloc_new]
  · simp [World.cell?_alloc_new]
  · omega

set_option maxHeartbeats 2000000 in
theorem awake01_any (w : World) :
    Calls Try.prog 11 #[] w fun e w' => e = .returned (.bool true) ∧ Below w.heap.size w w' := by
  have v1 : sat (2 * 4294967296) = 8589934592 := by decide +kernel
  have v2 : divF 4294967296 8589934592 = 2147483648 := by decide +kernel
  have v3 : mulF 3 2147483648 = 2 := by decide +kernel
  have v4 : mulF 5 2147483648 = 2 := by decide +kernel
  have v5 : sat (9223372036854775807 + 1) = 9223372036854775807 := by decide +kernel
  have v6 : sat (-(-9223372036854775808)) = 9223372036854775807 := by decide +kernel
  have v7 : divF (-1) 4 = -1073741824 := by decide +kernel
  have v8 : sumF [1, 2, 3] = 6 := by decide +kernel
  have v9 : (-1 : Int) / 4294967296 = -1 := by decide +kernel
  have C1 := fun w => int_any 2 w (by omega) (by omega)
  have C2 := fun w => div_any 4294967296 8589934592 w (by omega) (by omega) (by omega) (by omega)
  have C3 := fun w => mul_any 3 2147483648 w (by omega) (by omega) (by omega) (by omega)
  have C4 := fun w => mul_any 5 2147483648 w (by omega) (by omega) (by omega) (by omega)
  have C5 := fun w => add_any 9223372036854775807 1 w (by omega) (by omega) (by omega) (by omega)
  have C6 := fun w => neg_any (-9223372036854775808) w (by omega) (by omega)
  have C7 := fun w => ratio_any (-1) 4 w (by omega) (by omega) (by omega) (by omega)
  have C9 := fun w => floor_any (-1) w (by omega) (by omega)
  rw [v1] at C1
  rw [v2] at C2
  rw [v3] at C3
  rw [v4] at C4
  rw [v5] at C5
  rw [v6] at C6
  rw [v7] at C7
  rw [v9] at C9
  have D1 := Lib.hid C1; have D2 := Lib.hid C2; have D3 := Lib.hid C3; have D4 := Lib.hid C4; have D5 := Lib.hid C5; have D6 := Lib.hid C6; have D7 := Lib.hid C7; have D9 := Lib.hid C9; have V8 := Lib.hid v8
  clear C1 C2 C3 C4 C5 C6 C7 C9 v1 v2 v3 v4 v5 v6 v7 v8 v9
  go_enter Try.func11, Try.ntmps11
  go_wp2_with fail
  refine (D1.out _).mono ?_
  rintro e w' ⟨rfl, rfl⟩
  go_wp2_with fail
  refine (D2.out _).mono ?_
  rintro e w' ⟨rfl, n1, rfl⟩
  go_wp2_with fail
  refine (D3.out _).mono ?_
  rintro e w' ⟨rfl, rfl⟩
  go_wp2_with fail
  refine (D4.out _).mono ?_
  rintro e w' ⟨rfl, rfl⟩
  go_wp2_with fail
  refine (D5.out _).mono ?_
  rintro e w' ⟨rfl, rfl⟩
  go_wp2_with fail
  refine (D6.out _).mono ?_
  rintro e w' ⟨rfl, rfl⟩
  go_wp2_with fail
  refine (D7.out _).mono ?_
  rintro e w' ⟨rfl, n2, rfl⟩
  go_wp2_with fail
  refine (sum_any _ 3 3 [1, 2, 3] _ (newInts (w.drewN (n1 + n2)) _)).mono ?_
  rintro e w' ⟨rfl, rfl⟩
  rw [V8.out]
  go_wp2_with fail
  refine (D9.out _).mono ?_
  rintro e w' ⟨rfl, rfl⟩
  go_wp2_with fail
  go_ret
  exact ⟨rfl, (below_drewN' (Below.refl _ _) _).alloc (by simp) _⟩
end Go.Proofs.Ytgeomaaflajchaa
