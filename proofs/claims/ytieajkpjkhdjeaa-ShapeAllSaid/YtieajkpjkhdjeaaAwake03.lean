/-
  The fixed answer of the statements of layer 3: the program gives it.
-/
import Derived.Test.YtieajkpjkhdjeaaShapeS
namespace Go.Proofs.Ytieajkpjkhdjeaa
open Go.RowKit
set_option linter.unusedVariables false
set_option linter.unusedSimpArgs false

theorem IntsAt.two (W : World) (x y : Int) (hx : -9223372036854775808 ≤ x ∧ x ≤ 9223372036854775807) (hy : -9223372036854775808 ≤ y ∧ y ≤ 9223372036854775807) (t : TypeId) :
    IntsAt (W.alloc (.cells #[.int .i64 x, .int .i64 y] t)) (some ⟨W.heap.size, 0, none⟩) 2 [x, y] :=
  IntsAt.made W t [x, y] 2 rfl (by omega) (by intro n hn; simp at hn; omega)

set_option maxHeartbeats 4000000 in
theorem awake03_any (w : World) :
    Calls Try.prog 9 #[] w fun e w' => e = .returned (.bool true) ∧ Below w.heap.size w w' := by
  have v1 : Hid (sizeN [2, 3] = 6 ∧ sizeE [2, 3] = 0) := by show _ ∧ _; decide +kernel
  have v2 : Hid (placeN [2, 3] [1, 0] = 3 ∧ placeE [2, 3] [1, 0] = 0) := by show _ ∧ _; decide +kernel
  have v3 : Hid (sizeE [0] = 20) := by show _ = _; decide +kernel
  have v4 : Hid (winN 5 3 1 = 3 ∧ winE 5 3 1 = 0) := by show _ ∧ _; decide +kernel
  have v5 : Hid (sameL [2, 7] [2, 7] = true) := by show _ = _; decide +kernel
  go_enter Try.func9, Try.ntmps9
  go_wp2_with fail
  have s0 := Lib.hid (IntsAt.two w 2 3 (by omega) (by omega) 3)
  have z0 : Below w.heap.size w (w.alloc (.cells #[.int .i64 2, .int .i64 3] 3)) := (Below.refl _ _).alloc (Nat.le_refl _) _
  obtain ⟨w0, hw0⟩ : ∃ w0, w.alloc (.cells #[.int .i64 2, .int .i64 3] 3) = w0 := ⟨_, rfl⟩
  rw [hw0] at s0 z0 ⊢
  clear hw0
  refine (size_any _ 2 2 [2, 3] _ s0.out).mono ?_
  rintro e w1 ⟨rfl, hb1⟩
  rw [v1.out.1, v1.out.2]
  have s1 := Lib.hid (s0.out.kept hb1)
  have z1 : Below w.heap.size w w1 := z0.trans (hb1.mono z0.size)
  clear hb1 s0 z0
  go_wp2_with fail
  refine (place_any _ 2 2 [2, 3] _ 2 2 [1, 0] _ (s1.out.kept ((Below.refl _ _).alloc (Nat.le_refl _) _)) (IntsAt.two w1 1 0 (by omega) (by omega) _)).mono ?_
  rintro e w2 ⟨rfl, hb2⟩
  rw [v2.out.1, v2.out.2]
  replace hb2 := ((Below.refl _ w1).alloc (Nat.le_refl _) _).trans (hb2.mono (by simp))
  have s2 := Lib.hid (s1.out.kept hb2)
  have z2 : Below w.heap.size w w2 := z1.trans (hb2.mono z1.size)
  clear hb2 s1 z1
  go_wp2_with fail
  refine (join_ok _ 2 2 [2, 3] _ 2 [2, 4] 1 _ (s2.out.kept ((Below.refl _ _).alloc (Nat.le_refl _) _)) (IntsAt.two w2 2 4 (by omega) (by omega) _) (by decide +kernel) (by decide +kernel) (by omega) (by decide +kernel) (by decide +kernel)).mono ?_
  rintro e w3 ⟨A, c, rfl, ho, hb3⟩
  replace hb3 := ((Below.refl _ w2).alloc (Nat.le_refl _) _).trans (hb3.mono (by simp))
  have s3 := Lib.hid (show IntsAt w3 A 2 [2, 7] from row_ints ho (by omega) (by intro n hn; simp at hn; omega))
  have z3 : Below w.heap.size w w3 := z2.trans (hb3.mono z2.size)
  clear hb3 s2 z2 ho
  go_wp2_with fail
  refine (window_any 5 3 1 _).mono ?_
  rintro e w' ⟨rfl, rfl⟩
  rw [v4.out.1, v4.out.2]
  go_wp2_with fail
  refine (size_any _ 1 1 [0] _ (IntsAt.made w3 _ [0] 1 rfl (by omega) (by intro n hn; simp at hn; omega))).mono ?_
  rintro e w4 ⟨rfl, hb4⟩
  rw [v3.out]
  obtain ⟨x, hx⟩ : ∃ x, sizeN [0] = x := ⟨_, rfl⟩
  rw [hx]
  clear hx
  replace hb4 := ((Below.refl _ w3).alloc (Nat.le_refl _) _).trans (hb4.mono (by simp))
  have s4 := Lib.hid (s3.out.kept hb4)
  have z4 : Below w.heap.size w w4 := z3.trans (hb4.mono z3.size)
  clear hb4 s3 z3
  go_wp2_with fail
  refine (equal_any _ 2 _ [2, 7] _ 2 2 [2, 7] _ (s4.out.kept ((Below.refl _ _).alloc (Nat.le_refl _) _)) (IntsAt.two w4 2 7 (by omega) (by omega) _)).mono ?_
  rintro e w5 ⟨rfl, n, rfl⟩
  rw [v5.out]
  go_wp2_with fail
  go_ret
  exact ⟨rfl, below_drewN' (z4.alloc z4.size _) n⟩
end Go.Proofs.Ytieajkpjkhdjeaa
