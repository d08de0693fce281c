/-
  The fixed answer of the statements of layer 2: the program gives it.
-/
import Derived.Test.YtofekhkggojpnaaSafeI
import Derived.Test.YtofekhkggojpnaaRef02
namespace Go.Proofs.Ytofekhkggojpnaa
open Go.RowKit
set_option linter.unusedVariables false
set_option linter.unusedSimpArgs false

set_option maxHeartbeats 2000000 in
theorem awake02_any (w : World) :
    Calls Try.prog 8 #[] w fun e w' => e = .returned (.bool true) ∧ Below w.heap.size w w' := by
  have v1 : Hid (addN [1, 2, 3] = 6 ∧ addE [1, 2, 3] = 0) := by show _ ∧ _; decide +kernel
  have v2 : Hid (mulN [1024, 1024, 1024, 1024] = 1099511627776 ∧ mulE [1024, 1024, 1024, 1024] = 0) := by show _ ∧ _; decide +kernel
  have v3 : Hid (mulE [2097152, 1048576] = 17) := by show _ = _; decide +kernel
  have v4 : Hid (addE [-1] = 11) := by show _ = _; decide +kernel
  have v5 : Hid (rootI 15 = 3) := by show _ = _; decide +kernel
  have v6 : Hid (maxI [3, 9, 2] = 9) := by show _ = _; decide +kernel
  go_enter Try.func8, Try.ntmps8
  go_wp2_with fail
  refine (safeadd_any _ 3 3 [1, 2, 3] _ (IntsAt.made w _ [1, 2, 3] 3 rfl (by omega) (by intro n hn; simp at hn; omega))).mono ?_
  rintro e w1 ⟨rfl, hb1⟩
  rw [v1.out.1, v1.out.2]
  have z1 : Below w.heap.size w w1 := ((Below.refl _ _).alloc (Nat.le_refl _) _).trans (hb1.mono (by simp))
  clear hb1
  go_wp2_with fail
  refine (safemul_any _ 4 4 [1024, 1024, 1024, 1024] _ (IntsAt.made w1 _ [1024, 1024, 1024, 1024] 4 rfl (by omega) (by intro n hn; simp at hn; omega))).mono ?_
  rintro e w2 ⟨rfl, hb2⟩
  rw [v2.out.1, v2.out.2]
  have z2 : Below w.heap.size w w2 := z1.trans ((((Below.refl _ _).alloc (Nat.le_refl _) _).trans (hb2.mono (by simp))).mono z1.size)
  clear hb2
  go_wp2_with fail
  refine (safemul_any _ 2 2 [2097152, 1048576] _ (IntsAt.made w2 _ [2097152, 1048576] 2 rfl (by omega) (by intro n hn; simp at hn; omega))).mono ?_
  rintro e w3 ⟨rfl, hb3⟩
  rw [v3.out]
  have z3 : Below w.heap.size w w3 := z2.trans ((((Below.refl _ _).alloc (Nat.le_refl _) _).trans (hb3.mono (by simp))).mono z2.size)
  clear hb3
  go_wp2_with fail
  refine (safeadd_any _ 1 1 [-1] _ (IntsAt.made w3 _ [-1] 1 rfl (by omega) (by intro n hn; simp at hn; omega))).mono ?_
  rintro e w4 ⟨rfl, hb4⟩
  rw [v4.out]
  have z4 : Below w.heap.size w w4 := z3.trans ((((Below.refl _ _).alloc (Nat.le_refl _) _).trans (hb4.mono (by simp))).mono z3.size)
  clear hb4
  go_wp2_with fail
  refine (isqrt_any 15 _ (by omega) (by omega)).mono ?_
  rintro e w' ⟨rfl, rfl⟩
  rw [v5.out]
  go_wp2_with fail
  refine (safemax_any _ 3 3 [3, 9, 2] _ (IntsAt.made w4 _ [3, 9, 2] 3 rfl (by omega) (by intro n hn; simp at hn; omega))).mono ?_
  rintro e w' ⟨rfl, rfl⟩
  rw [v6.out]
  go_wp2_with fail
  go_ret
  exact ⟨rfl, z4.alloc z4.size _⟩
end Go.Proofs.Ytofekhkggojpnaa
