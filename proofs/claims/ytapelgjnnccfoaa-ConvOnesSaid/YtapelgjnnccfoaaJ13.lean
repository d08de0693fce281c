import Derived.Test.YtapelgjnnccfoaaJ02
import Derived.Test.YtapelgjnnccfoaaJ03
import Derived.Test.YtapelgjnnccfoaaJ04
import Derived.Test.YtapelgjnnccfoaaJ08
import Derived.LoopTactic
import Derived.WalkSmall
/-
  Contracts of the reference of layer 7: Of.
-/
namespace Go.Proofs.Ytapelgjnnccfoaa
open Go.RowKit
set_option linter.unusedVariables false
set_option linter.unusedSimpArgs false

/-- The plan as the reference holds it: eight numbers. -/
def planV (p : PlanN) : Value := .agg #[.int .i64 (p.O : Int), .int .i64 (p.C : Int), .int .i64 (p.K : Int), .int .i64 (p.L : Int), .int .i64 (p.H : Int), .int .i64 (p.W : Int), .int .i64 (p.dn : Int), .int .i64 (p.rt : Int)]
theorem plan_two {o c l n s : Int} (ho : 0 ≤ o) (hc : 0 ≤ c) (hl : 0 ≤ l) (hn : 0 ≤ n) (hs : 0 ≤ s) : planV (planOf [o, c, l] [c, n] s) = .agg #[.int .i64 o, .int .i64 c, .int .i64 1, .int .i64 l, .int .i64 1, .int .i64 n, .int .i64 1, .int .i64 s] := by
  simp only [planV, planOf, Int.toNat_of_nonneg ho, Int.toNat_of_nonneg hc, Int.toNat_of_nonneg hl, Int.toNat_of_nonneg hn, Int.toNat_of_nonneg hs]
  rfl
theorem plan_three {o c k l h n s : Int} (ho : 0 ≤ o) (hc : 0 ≤ c) (hk : 0 ≤ k) (hl : 0 ≤ l) (hh : 0 ≤ h) (hn : 0 ≤ n) (hs : 0 ≤ s) : planV (planOf [o, c, k, l] [c, h, n] s) = .agg #[.int .i64 o, .int .i64 c, .int .i64 k, .int .i64 l, .int .i64 h, .int .i64 n, .int .i64 s, .int .i64 s] := by
  simp only [planV, planOf, Int.toNat_of_nonneg ho, Int.toNat_of_nonneg hc, Int.toNat_of_nonneg hk, Int.toNat_of_nonneg hl, Int.toNat_of_nonneg hh, Int.toNat_of_nonneg hn, Int.toNat_of_nonneg hs]
theorem plan_box (w : World) (v : Array Value) : ∃ wB, Hid (w.alloc (.cells v 45) = wB) ∧ Hid (wB.heap[w.heap.size]? = some (.cells v 45 (0, 0))) ∧ Hid (Below w.heap.size w wB) ∧ Hid (wB.heap.size = w.heap.size + 1) :=
  ⟨_, Lib.hid rfl, Lib.hid (World.alloc_heap_new w _), Lib.hid ((Below.refl _ _).alloc (Nat.le_refl _) _), Lib.hid (World.size_alloc w _)⟩

def set8 (W : World) (K : Nat) (a b c d e f g h : Value) : World := (((((((W.setCell ⟨K, 0, none⟩ a).setCell ⟨K, 1, none⟩ b).setCell ⟨K, 2, none⟩ c).setCell ⟨K, 3, none⟩ d).setCell ⟨K, 4, none⟩ e).setCell ⟨K, 5, none⟩ f).setCell ⟨K, 6, none⟩ g).setCell ⟨K, 7, none⟩ h
theorem drew_heap (W : World) : W.drew.heap = W.heap := rfl
theorem set8_at {W : World} {K : Nat} {x0 x1 x2 x3 x4 x5 x6 x7 : Value} {t : TypeId} (hh : W.heap[K]? = some (.cells #[x0, x1, x2, x3, x4, x5, x6, x7] t (0, 0))) (a b c d e f g h : Value) : (set8 W K a b c d e f g h).heap[K]? = some (.cells #[a, b, c, d, e, f, g, h] t (0, 0)) := by
  have h0' := heap_setCell_same _ K 0 _ _ a hh
  simp only [List.setIfInBounds_toArray, List.set_cons_zero, List.set_cons_succ] at h0'
  have h0 := h0'
  have h1' := heap_setCell_same _ K 1 _ _ b h0
  simp only [List.setIfInBounds_toArray, List.set_cons_zero, List.set_cons_succ] at h1'
  have h1 := h1'
  have h2' := heap_setCell_same _ K 2 _ _ c h1
  simp only [List.setIfInBounds_toArray, List.set_cons_zero, List.set_cons_succ] at h2'
  have h2 := h2'
  have h3' := heap_setCell_same _ K 3 _ _ d h2
  simp only [List.setIfInBounds_toArray, List.set_cons_zero, List.set_cons_succ] at h3'
  have h3 := h3'
  have h4' := heap_setCell_same _ K 4 _ _ e h3
  simp only [List.setIfInBounds_toArray, List.set_cons_zero, List.set_cons_succ] at h4'
  have h4 := h4'
  have h5' := heap_setCell_same _ K 5 _ _ f h4
  simp only [List.setIfInBounds_toArray, List.set_cons_zero, List.set_cons_succ] at h5'
  have h5 := h5'
  have h6' := heap_setCell_same _ K 6 _ _ g h5
  simp only [List.setIfInBounds_toArray, List.set_cons_zero, List.set_cons_succ] at h6'
  have h6 := h6'
  have h7' := heap_setCell_same _ K 7 _ _ h h6
  simp only [List.setIfInBounds_toArray, List.set_cons_zero, List.set_cons_succ] at h7'
  have h7 := h7'
  unfold set8
  exact h7
theorem set8_below {n : Nat} {w W : World} {K : Nat} {a b c d e f g h : Value} (hb : Below n w W) (hK : n ≤ K) : Below n w (set8 W K a b c d e f g h) :=
  (((((((hb.setCell (p := ⟨K, 0, none⟩) hK a).setCell (p := ⟨K, 1, none⟩) hK b).setCell (p := ⟨K, 2, none⟩) hK c).setCell (p := ⟨K, 3, none⟩) hK d).setCell (p := ⟨K, 4, none⟩) hK e).setCell (p := ⟨K, 5, none⟩) hK f).setCell (p := ⟨K, 6, none⟩) hK g).setCell (p := ⟨K, 7, none⟩) hK h

set_option maxRecDepth 100000 in
set_option maxHeartbeats 4000000 in
theorem refof_2 (a1 : Option Addr) (c1 : Nat) (o c l : Int) (a2 : Option Addr) (c2 : Nat) (n s : Int) (w : World) (h : IntsAt w a1 3 [o, c, l]) (h' : IntsAt w a2 2 [c, n]) :
    Calls Try.prog 18 #[.slice a1 3 c1, .slice a2 2 c2, .int .i64 s] w fun e w' => e = .returned (.agg #[.int .i64 o, .int .i64 c, .int .i64 1, .int .i64 l, .int .i64 1, .int .i64 n, .int .i64 1, .int .i64 s]) ∧ Below w.heap.size w w' := by
  obtain ⟨b, off, rfl, hc⟩ := ints_cell h (by omega)
  obtain ⟨b', off', rfl, hc'⟩ := ints_cell h' (by omega)
  obtain ⟨wA, hwA, J, z, nA⟩ := plan_box w #[.int .i64 0, .int .i64 0, .int .i64 0, .int .i64 0, .int .i64 0, .int .i64 0, .int .i64 0, .int .i64 0]
  have k0 := hc 0 (by omega)
  have k1 := hc 1 (by omega)
  have k2 := hc 2 (by omega)
  have m0 := hc' 0 (by omega)
  have m1 := hc' 1 (by omega)
  simp only [Nat.add_zero, List.getD_cons_zero, List.getD_cons_succ] at k0 k1 k2 m0 m1
  have fz : ∀ j, wA.frozen? ⟨w.heap.size, j, none⟩ = false := fun j => frozen_of_row wA w.heap.size j _ _ J.out
  have e0 : wA.cell? ⟨w.heap.size, 0, none⟩ = some (.int .i64 0) := by rw [cell_of_row wA w.heap.size 0 _ _ _ J.out]; rfl
  have e1 : wA.cell? ⟨w.heap.size, 1, none⟩ = some (.int .i64 0) := by rw [cell_of_row wA w.heap.size 1 _ _ _ J.out]; rfl
  have e2 : wA.cell? ⟨w.heap.size, 2, none⟩ = some (.int .i64 0) := by rw [cell_of_row wA w.heap.size 2 _ _ _ J.out]; rfl
  have e3 : wA.cell? ⟨w.heap.size, 3, none⟩ = some (.int .i64 0) := by rw [cell_of_row wA w.heap.size 3 _ _ _ J.out]; rfl
  have e4 : wA.cell? ⟨w.heap.size, 4, none⟩ = some (.int .i64 0) := by rw [cell_of_row wA w.heap.size 4 _ _ _ J.out]; rfl
  have e5 : wA.cell? ⟨w.heap.size, 5, none⟩ = some (.int .i64 0) := by rw [cell_of_row wA w.heap.size 5 _ _ _ J.out]; rfl
  have e6 : wA.cell? ⟨w.heap.size, 6, none⟩ = some (.int .i64 0) := by rw [cell_of_row wA w.heap.size 6 _ _ _ J.out]; rfl
  have e7 : wA.cell? ⟨w.heap.size, 7, none⟩ = some (.int .i64 0) := by rw [cell_of_row wA w.heap.size 7 _ _ _ J.out]; rfl
  have f0 := fz 0
  have f1 := fz 1
  have f2 := fz 2
  have f3 := fz 3
  have f4 := fz 4
  have f5 := fz 5
  have f6 := fz 6
  have f7 := fz 7
  obtain ⟨w9, hw9⟩ : ∃ w9, (set8 wA w.heap.size (.int .i64 o) (.int .i64 c) (.int .i64 1) (.int .i64 l) (.int .i64 1) (.int .i64 n) (.int .i64 1) (.int .i64 s)).drew = w9 := ⟨_, rfl⟩
  have HB9 : Hid (Below w.heap.size w w9) := Lib.hid (by rw [← hw9]; exact (set8_below z.out (Nat.le_refl _)).drew)
  have J9 : w9.heap[w.heap.size]? = some (.cells #[.int .i64 o, .int .i64 c, .int .i64 1, .int .i64 l, .int .i64 1, .int .i64 n, .int .i64 1, .int .i64 s] 45 (0, 0)) := by rw [← hw9, drew_heap]; exact set8_at J.out (.int .i64 o) (.int .i64 c) (.int .i64 1) (.int .i64 l) (.int .i64 1) (.int .i64 n) (.int .i64 1) (.int .i64 s)
  have r0 : w9.cell? ⟨w.heap.size, 0, none⟩ = some (.int .i64 o) := by rw [cell_of_row w9 w.heap.size 0 _ _ _ J9]; rfl
  have r1 : w9.cell? ⟨w.heap.size, 1, none⟩ = some (.int .i64 c) := by rw [cell_of_row w9 w.heap.size 1 _ _ _ J9]; rfl
  have r2 : w9.cell? ⟨w.heap.size, 2, none⟩ = some (.int .i64 1) := by rw [cell_of_row w9 w.heap.size 2 _ _ _ J9]; rfl
  have r3 : w9.cell? ⟨w.heap.size, 3, none⟩ = some (.int .i64 l) := by rw [cell_of_row w9 w.heap.size 3 _ _ _ J9]; rfl
  have r4 : w9.cell? ⟨w.heap.size, 4, none⟩ = some (.int .i64 1) := by rw [cell_of_row w9 w.heap.size 4 _ _ _ J9]; rfl
  have r5 : w9.cell? ⟨w.heap.size, 5, none⟩ = some (.int .i64 n) := by rw [cell_of_row w9 w.heap.size 5 _ _ _ J9]; rfl
  have r6 : w9.cell? ⟨w.heap.size, 6, none⟩ = some (.int .i64 1) := by rw [cell_of_row w9 w.heap.size 6 _ _ _ J9]; rfl
  have r7 : w9.cell? ⟨w.heap.size, 7, none⟩ = some (.int .i64 s) := by rw [cell_of_row w9 w.heap.size 7 _ _ _ J9]; rfl
  have HW9 := Lib.hid hw9
  simp only [set8] at HW9
  clear h h' hc hc' J9 hw9 fz
  go_enter Try.func18, Try.ntmps18
  go_upto_region 1 with (fail)
  rw [hwA.out]
  go_wp2_with fail
  have SK := Lib.hid (fun w' (hb : Below w.heap.size w w') => (show w'.cell? ⟨b, off, none⟩ = some (.int .i64 o) ∧ w'.cell? ⟨b, off + 1, none⟩ = some (.int .i64 c) ∧ w'.cell? ⟨b, off + 2, none⟩ = some (.int .i64 l) ∧ w'.cell? ⟨b', off' + 1, none⟩ = some (.int .i64 n) from ⟨cell_later hb k0, cell_later hb k1, cell_later hb k2, cell_later hb m1⟩))
  have t1 := Lib.hid (show Below wA.heap.size wA wA.drew from (Below.refl _ _).drew)
  refine wp_region_held_drew (S := fun w' => w'.cell? ⟨b, off, none⟩ = some (.int .i64 o) ∧ w'.cell? ⟨b, off + 1, none⟩ = some (.int .i64 c) ∧ w'.cell? ⟨b, off + 2, none⟩ = some (.int .i64 l) ∧ w'.cell? ⟨b', off' + 1, none⟩ = some (.int .i64 n)) (by kernel_rfl) (SK.out _ (z.out.trans (t1.out.mono z.out.size))) (fun hHeld => ?_)
  refine held_take 0 (.slice (some ⟨b, off, none⟩) 3 c1) rfl (by kernel_rfl) (by kernel_rfl) (by kernel_rfl) (fun _ _ _ h => h) (by rfl) (by intro w' hS; go_simp) (by assumption) ?_
  try simp only [Act.put, List.setIfInBounds_toArray, List.set_cons_zero, List.set_cons_succ]
  refine held_take 1 (.pointer (some ⟨b, off, none⟩)) rfl (by kernel_rfl) (by kernel_rfl) (by kernel_rfl) (fun _ _ _ h => h) (by rfl) (by intro w' hS; go_simp) (by assumption) ?_
  try simp only [Act.put, List.setIfInBounds_toArray, List.set_cons_zero, List.set_cons_succ]
  refine held_take 2 (.int .i64 o) rfl (by kernel_rfl) (by kernel_rfl) (by kernel_rfl) (fun _ _ _ h => h) (by rfl) (by intro w' hS; go_simp) (by assumption) ?_
  try simp only [Act.put, List.setIfInBounds_toArray, List.set_cons_zero, List.set_cons_succ]
  refine held_take 3 (.slice (some ⟨b, off, none⟩) 3 c1) rfl (by kernel_rfl) (by kernel_rfl) (by kernel_rfl) (fun _ _ _ h => h) (by rfl) (by intro w' hS; go_simp) (by assumption) ?_
  try simp only [Act.put, List.setIfInBounds_toArray, List.set_cons_zero, List.set_cons_succ]
  refine held_take 4 (.pointer (some ⟨b, off + 1, none⟩)) rfl (by kernel_rfl) (by kernel_rfl) (by kernel_rfl) (fun _ _ _ h => h) (by rfl) (by intro w' hS; go_simp) (by assumption) ?_
  try simp only [Act.put, List.setIfInBounds_toArray, List.set_cons_zero, List.set_cons_succ]
  refine held_take 5 (.int .i64 c) rfl (by kernel_rfl) (by kernel_rfl) (by kernel_rfl) (fun _ _ _ h => h) (by rfl) (by intro w' hS; go_simp) (by assumption) ?_
  try simp only [Act.put, List.setIfInBounds_toArray, List.set_cons_zero, List.set_cons_succ]
  refine held_take 6 (.slice (some ⟨b, off, none⟩) 3 c1) rfl (by kernel_rfl) (by kernel_rfl) (by kernel_rfl) (fun _ _ _ h => h) (by rfl) (by intro w' hS; go_simp) (by assumption) ?_
  try simp only [Act.put, List.setIfInBounds_toArray, List.set_cons_zero, List.set_cons_succ]
  refine held_take 7 (.pointer (some ⟨b, off + 2, none⟩)) rfl (by kernel_rfl) (by kernel_rfl) (by kernel_rfl) (fun _ _ _ h => h) (by rfl) (by intro w' hS; go_simp) (by assumption) ?_
  try simp only [Act.put, List.setIfInBounds_toArray, List.set_cons_zero, List.set_cons_succ]
  refine held_take 8 (.int .i64 l) rfl (by kernel_rfl) (by kernel_rfl) (by kernel_rfl) (fun _ _ _ h => h) (by rfl) (by intro w' hS; go_simp) (by assumption) ?_
  try simp only [Act.put, List.setIfInBounds_toArray, List.set_cons_zero, List.set_cons_succ]
  refine held_take 9 (.slice (some ⟨b', off', none⟩) 2 c2) rfl (by kernel_rfl) (by kernel_rfl) (by kernel_rfl) (fun _ _ _ h => h) (by rfl) (by intro w' hS; go_simp) (by assumption) ?_
  try simp only [Act.put, List.setIfInBounds_toArray, List.set_cons_zero, List.set_cons_succ]
  refine held_take 10 (.pointer (some ⟨b', off' + 1, none⟩)) rfl (by kernel_rfl) (by kernel_rfl) (by kernel_rfl) (fun _ _ _ h => h) (by rfl) (by intro w' hS; go_simp) (by assumption) ?_
  try simp only [Act.put, List.setIfInBounds_toArray, List.set_cons_zero, List.set_cons_succ]
  refine held_take 11 (.int .i64 n) rfl (by kernel_rfl) (by kernel_rfl) (by kernel_rfl) (fun _ _ _ h => h) (by rfl) (by intro w' hS; go_simp) (by assumption) ?_
  try simp only [Act.put, List.setIfInBounds_toArray, List.set_cons_zero, List.set_cons_succ]
  refine held_take 12 (.int .i64 s) rfl (by kernel_rfl) (by kernel_rfl) (by kernel_rfl) (fun _ _ _ h => h) (by rfl) (by intro w' hS; go_simp) (by assumption) ?_
  try simp only [Act.put, List.setIfInBounds_toArray, List.set_cons_zero, List.set_cons_succ]
  refine held_take 13 (.agg #[.int .i64 o, .int .i64 c, .int .i64 1, .int .i64 l, .int .i64 1, .int .i64 n, .int .i64 1, .int .i64 s]) rfl (by kernel_rfl) (by kernel_rfl) (by kernel_rfl) (fun _ _ _ h => h) (by rfl) (by intro w' hS; go_simp) (by assumption) ?_
  try simp only [Act.put, List.setIfInBounds_toArray, List.set_cons_zero, List.set_cons_succ]
  refine held_call 14 (by kernel_rfl) rfl (by rfl) (fun K hK => ?_)
  go_simp
  rw [HW9.out]
  refine hK.out _ _ (SK.out _ HB9.out) (fun hHeld => ?_)
  try simp only [Act.put, List.setIfInBounds_toArray, List.set_cons_zero, List.set_cons_succ]
  refine wpAnyH_done (by kernel_rfl) ?_ _
  go_wp2_with fail
  refine bodyPost_ret (v := .agg #[.int .i64 o, .int .i64 c, .int .i64 1, .int .i64 l, .int .i64 1, .int .i64 n, .int .i64 1, .int .i64 s]) ?_ rfl ⟨rfl, HB9.out⟩
  simp [results, Try.results18, go_sem, r0, r1, r2, r3, r4, r5, r6, r7]

set_option maxRecDepth 100000 in
set_option maxHeartbeats 4000000 in
theorem refof_3 (a1 : Option Addr) (c1 : Nat) (o c k l : Int) (a2 : Option Addr) (c2 : Nat) (hh n s : Int) (w : World) (h : IntsAt w a1 4 [o, c, k, l]) (h' : IntsAt w a2 3 [c, hh, n]) :
    Calls Try.prog 18 #[.slice a1 4 c1, .slice a2 3 c2, .int .i64 s] w fun e w' => e = .returned (.agg #[.int .i64 o, .int .i64 c, .int .i64 k, .int .i64 l, .int .i64 hh, .int .i64 n, .int .i64 s, .int .i64 s]) ∧ Below w.heap.size w w' := by
  obtain ⟨b, off, rfl, hc⟩ := ints_cell h (by omega)
  obtain ⟨b', off', rfl, hc'⟩ := ints_cell h' (by omega)
  obtain ⟨wA, hwA, J, z, nA⟩ := plan_box w #[.int .i64 0, .int .i64 0, .int .i64 0, .int .i64 0, .int .i64 0, .int .i64 0, .int .i64 0, .int .i64 0]
  have k0 := hc 0 (by omega)
  have k1 := hc 1 (by omega)
  have k2 := hc 2 (by omega)
  have k3 := hc 3 (by omega)
  have m0 := hc' 0 (by omega)
  have m1 := hc' 1 (by omega)
  have m2 := hc' 2 (by omega)
  simp only [Nat.add_zero, List.getD_cons_zero, List.getD_cons_succ] at k0 k1 k2 k3 m0 m1 m2
  have fz : ∀ j, wA.frozen? ⟨w.heap.size, j, none⟩ = false := fun j => frozen_of_row wA w.heap.size j _ _ J.out
  have e0 : wA.cell? ⟨w.heap.size, 0, none⟩ = some (.int .i64 0) := by rw [cell_of_row wA w.heap.size 0 _ _ _ J.out]; rfl
  have e1 : wA.cell? ⟨w.heap.size, 1, none⟩ = some (.int .i64 0) := by rw [cell_of_row wA w.heap.size 1 _ _ _ J.out]; rfl
  have e2 : wA.cell? ⟨w.heap.size, 2, none⟩ = some (.int .i64 0) := by rw [cell_of_row wA w.heap.size 2 _ _ _ J.out]; rfl
  have e3 : wA.cell? ⟨w.heap.size, 3, none⟩ = some (.int .i64 0) := by rw [cell_of_row wA w.heap.size 3 _ _ _ J.out]; rfl
  have e4 : wA.cell? ⟨w.heap.size, 4, none⟩ = some (.int .i64 0) := by rw [cell_of_row wA w.heap.size 4 _ _ _ J.out]; rfl
  have e5 : wA.cell? ⟨w.heap.size, 5, none⟩ = some (.int .i64 0) := by rw [cell_of_row wA w.heap.size 5 _ _ _ J.out]; rfl
  have e6 : wA.cell? ⟨w.heap.size, 6, none⟩ = some (.int .i64 0) := by rw [cell_of_row wA w.heap.size 6 _ _ _ J.out]; rfl
  have e7 : wA.cell? ⟨w.heap.size, 7, none⟩ = some (.int .i64 0) := by rw [cell_of_row wA w.heap.size 7 _ _ _ J.out]; rfl
  have f0 := fz 0
  have f1 := fz 1
  have f2 := fz 2
  have f3 := fz 3
  have f4 := fz 4
  have f5 := fz 5
  have f6 := fz 6
  have f7 := fz 7
  obtain ⟨w9, hw9⟩ : ∃ w9, (set8 wA w.heap.size (.int .i64 o) (.int .i64 c) (.int .i64 k) (.int .i64 l) (.int .i64 hh) (.int .i64 n) (.int .i64 s) (.int .i64 s)).drew = w9 := ⟨_, rfl⟩
  have HB9 : Hid (Below w.heap.size w w9) := Lib.hid (by rw [← hw9]; exact (set8_below z.out (Nat.le_refl _)).drew)
  have J9 : w9.heap[w.heap.size]? = some (.cells #[.int .i64 o, .int .i64 c, .int .i64 k, .int .i64 l, .int .i64 hh, .int .i64 n, .int .i64 s, .int .i64 s] 45 (0, 0)) := by rw [← hw9, drew_heap]; exact set8_at J.out (.int .i64 o) (.int .i64 c) (.int .i64 k) (.int .i64 l) (.int .i64 hh) (.int .i64 n) (.int .i64 s) (.int .i64 s)
  have r0 : w9.cell? ⟨w.heap.size, 0, none⟩ = some (.int .i64 o) := by rw [cell_of_row w9 w.heap.size 0 _ _ _ J9]; rfl
  have r1 : w9.cell? ⟨w.heap.size, 1, none⟩ = some (.int .i64 c) := by rw [cell_of_row w9 w.heap.size 1 _ _ _ J9]; rfl
  have r2 : w9.cell? ⟨w.heap.size, 2, none⟩ = some (.int .i64 k) := by rw [cell_of_row w9 w.heap.size 2 _ _ _ J9]; rfl
  have r3 : w9.cell? ⟨w.heap.size, 3, none⟩ = some (.int .i64 l) := by rw [cell_of_row w9 w.heap.size 3 _ _ _ J9]; rfl
  have r4 : w9.cell? ⟨w.heap.size, 4, none⟩ = some (.int .i64 hh) := by rw [cell_of_row w9 w.heap.size 4 _ _ _ J9]; rfl
  have r5 : w9.cell? ⟨w.heap.size, 5, none⟩ = some (.int .i64 n) := by rw [cell_of_row w9 w.heap.size 5 _ _ _ J9]; rfl
  have r6 : w9.cell? ⟨w.heap.size, 6, none⟩ = some (.int .i64 s) := by rw [cell_of_row w9 w.heap.size 6 _ _ _ J9]; rfl
  have r7 : w9.cell? ⟨w.heap.size, 7, none⟩ = some (.int .i64 s) := by rw [cell_of_row w9 w.heap.size 7 _ _ _ J9]; rfl
  have HW9 := Lib.hid hw9
  simp only [set8] at HW9
  clear h h' hc hc' J9 hw9 fz
  go_enter Try.func18, Try.ntmps18
  go_upto_region 1 with (fail)
  rw [hwA.out]
  go_wp2_with fail
  have SK := Lib.hid (fun w' (hb : Below w.heap.size w w') => (show w'.cell? ⟨b, off, none⟩ = some (.int .i64 o) ∧ w'.cell? ⟨b, off + 1, none⟩ = some (.int .i64 c) ∧ w'.cell? ⟨b, off + 2, none⟩ = some (.int .i64 k) ∧ w'.cell? ⟨b, off + 3, none⟩ = some (.int .i64 l) ∧ w'.cell? ⟨b', off' + 1, none⟩ = some (.int .i64 hh) ∧ w'.cell? ⟨b', off' + 2, none⟩ = some (.int .i64 n) from ⟨cell_later hb k0, cell_later hb k1, cell_later hb k2, cell_later hb k3, cell_later hb m1, cell_later hb m2⟩))
  have t1 := Lib.hid (show Below wA.heap.size wA wA.drew from (Below.refl _ _).drew)
  refine wp_region_held_drew (S := fun w' => w'.cell? ⟨b, off, none⟩ = some (.int .i64 o) ∧ w'.cell? ⟨b, off + 1, none⟩ = some (.int .i64 c) ∧ w'.cell? ⟨b, off + 2, none⟩ = some (.int .i64 k) ∧ w'.cell? ⟨b, off + 3, none⟩ = some (.int .i64 l) ∧ w'.cell? ⟨b', off' + 1, none⟩ = some (.int .i64 hh) ∧ w'.cell? ⟨b', off' + 2, none⟩ = some (.int .i64 n)) (by kernel_rfl) (SK.out _ (z.out.trans (t1.out.mono z.out.size))) (fun hHeld => ?_)
  refine held_take 0 (.slice (some ⟨b, off, none⟩) 4 c1) rfl (by kernel_rfl) (by kernel_rfl) (by kernel_rfl) (fun _ _ _ h => h) (by rfl) (by intro w' hS; go_simp) (by assumption) ?_
  try simp only [Act.put, List.setIfInBounds_toArray, List.set_cons_zero, List.set_cons_succ]
  refine held_take 1 (.pointer (some ⟨b, off, none⟩)) rfl (by kernel_rfl) (by kernel_rfl) (by kernel_rfl) (fun _ _ _ h => h) (by rfl) (by intro w' hS; go_simp) (by assumption) ?_
  try simp only [Act.put, List.setIfInBounds_toArray, List.set_cons_zero, List.set_cons_succ]
  refine held_take 2 (.int .i64 o) rfl (by kernel_rfl) (by kernel_rfl) (by kernel_rfl) (fun _ _ _ h => h) (by rfl) (by intro w' hS; go_simp) (by assumption) ?_
  try simp only [Act.put, List.setIfInBounds_toArray, List.set_cons_zero, List.set_cons_succ]
  refine held_take 3 (.slice (some ⟨b, off, none⟩) 4 c1) rfl (by kernel_rfl) (by kernel_rfl) (by kernel_rfl) (fun _ _ _ h => h) (by rfl) (by intro w' hS; go_simp) (by assumption) ?_
  try simp only [Act.put, List.setIfInBounds_toArray, List.set_cons_zero, List.set_cons_succ]
  refine held_take 4 (.pointer (some ⟨b, off + 1, none⟩)) rfl (by kernel_rfl) (by kernel_rfl) (by kernel_rfl) (fun _ _ _ h => h) (by rfl) (by intro w' hS; go_simp) (by assumption) ?_
  try simp only [Act.put, List.setIfInBounds_toArray, List.set_cons_zero, List.set_cons_succ]
  refine held_take 5 (.int .i64 c) rfl (by kernel_rfl) (by kernel_rfl) (by kernel_rfl) (fun _ _ _ h => h) (by rfl) (by intro w' hS; go_simp) (by assumption) ?_
  try simp only [Act.put, List.setIfInBounds_toArray, List.set_cons_zero, List.set_cons_succ]
  refine held_take 6 (.slice (some ⟨b, off, none⟩) 4 c1) rfl (by kernel_rfl) (by kernel_rfl) (by kernel_rfl) (fun _ _ _ h => h) (by rfl) (by intro w' hS; go_simp) (by assumption) ?_
  try simp only [Act.put, List.setIfInBounds_toArray, List.set_cons_zero, List.set_cons_succ]
  refine held_take 7 (.pointer (some ⟨b, off + 2, none⟩)) rfl (by kernel_rfl) (by kernel_rfl) (by kernel_rfl) (fun _ _ _ h => h) (by rfl) (by intro w' hS; go_simp) (by assumption) ?_
  try simp only [Act.put, List.setIfInBounds_toArray, List.set_cons_zero, List.set_cons_succ]
  refine held_take 8 (.int .i64 k) rfl (by kernel_rfl) (by kernel_rfl) (by kernel_rfl) (fun _ _ _ h => h) (by rfl) (by intro w' hS; go_simp) (by assumption) ?_
  try simp only [Act.put, List.setIfInBounds_toArray, List.set_cons_zero, List.set_cons_succ]
  refine held_take 9 (.slice (some ⟨b, off, none⟩) 4 c1) rfl (by kernel_rfl) (by kernel_rfl) (by kernel_rfl) (fun _ _ _ h => h) (by rfl) (by intro w' hS; go_simp) (by assumption) ?_
  try simp only [Act.put, List.setIfInBounds_toArray, List.set_cons_zero, List.set_cons_succ]
  refine held_take 10 (.pointer (some ⟨b, off + 3, none⟩)) rfl (by kernel_rfl) (by kernel_rfl) (by kernel_rfl) (fun _ _ _ h => h) (by rfl) (by intro w' hS; go_simp) (by assumption) ?_
  try simp only [Act.put, List.setIfInBounds_toArray, List.set_cons_zero, List.set_cons_succ]
  refine held_take 11 (.int .i64 l) rfl (by kernel_rfl) (by kernel_rfl) (by kernel_rfl) (fun _ _ _ h => h) (by rfl) (by intro w' hS; go_simp) (by assumption) ?_
  try simp only [Act.put, List.setIfInBounds_toArray, List.set_cons_zero, List.set_cons_succ]
  refine held_take 12 (.slice (some ⟨b', off', none⟩) 3 c2) rfl (by kernel_rfl) (by kernel_rfl) (by kernel_rfl) (fun _ _ _ h => h) (by rfl) (by intro w' hS; go_simp) (by assumption) ?_
  try simp only [Act.put, List.setIfInBounds_toArray, List.set_cons_zero, List.set_cons_succ]
  refine held_take 13 (.pointer (some ⟨b', off' + 1, none⟩)) rfl (by kernel_rfl) (by kernel_rfl) (by kernel_rfl) (fun _ _ _ h => h) (by rfl) (by intro w' hS; go_simp) (by assumption) ?_
  try simp only [Act.put, List.setIfInBounds_toArray, List.set_cons_zero, List.set_cons_succ]
  refine held_take 14 (.int .i64 hh) rfl (by kernel_rfl) (by kernel_rfl) (by kernel_rfl) (fun _ _ _ h => h) (by rfl) (by intro w' hS; go_simp) (by assumption) ?_
  try simp only [Act.put, List.setIfInBounds_toArray, List.set_cons_zero, List.set_cons_succ]
  refine held_take 15 (.slice (some ⟨b', off', none⟩) 3 c2) rfl (by kernel_rfl) (by kernel_rfl) (by kernel_rfl) (fun _ _ _ h => h) (by rfl) (by intro w' hS; go_simp) (by assumption) ?_
  try simp only [Act.put, List.setIfInBounds_toArray, List.set_cons_zero, List.set_cons_succ]
  refine held_take 16 (.pointer (some ⟨b', off' + 2, none⟩)) rfl (by kernel_rfl) (by kernel_rfl) (by kernel_rfl) (fun _ _ _ h => h) (by rfl) (by intro w' hS; go_simp) (by assumption) ?_
  try simp only [Act.put, List.setIfInBounds_toArray, List.set_cons_zero, List.set_cons_succ]
  refine held_take 17 (.int .i64 n) rfl (by kernel_rfl) (by kernel_rfl) (by kernel_rfl) (fun _ _ _ h => h) (by rfl) (by intro w' hS; go_simp) (by assumption) ?_
  try simp only [Act.put, List.setIfInBounds_toArray, List.set_cons_zero, List.set_cons_succ]
  refine held_take 18 (.int .i64 s) rfl (by kernel_rfl) (by kernel_rfl) (by kernel_rfl) (fun _ _ _ h => h) (by rfl) (by intro w' hS; go_simp) (by assumption) ?_
  try simp only [Act.put, List.setIfInBounds_toArray, List.set_cons_zero, List.set_cons_succ]
  refine held_take 19 (.int .i64 s) rfl (by kernel_rfl) (by kernel_rfl) (by kernel_rfl) (fun _ _ _ h => h) (by rfl) (by intro w' hS; go_simp) (by assumption) ?_
  try simp only [Act.put, List.setIfInBounds_toArray, List.set_cons_zero, List.set_cons_succ]
  refine held_take 20 (.agg #[.int .i64 o, .int .i64 c, .int .i64 k, .int .i64 l, .int .i64 hh, .int .i64 n, .int .i64 s, .int .i64 s]) rfl (by kernel_rfl) (by kernel_rfl) (by kernel_rfl) (fun _ _ _ h => h) (by rfl) (by intro w' hS; go_simp) (by assumption) ?_
  try simp only [Act.put, List.setIfInBounds_toArray, List.set_cons_zero, List.set_cons_succ]
  refine held_call 21 (by kernel_rfl) rfl (by rfl) (fun K hK => ?_)
  go_simp
  rw [HW9.out]
  refine hK.out _ _ (SK.out _ HB9.out) (fun hHeld => ?_)
  try simp only [Act.put, List.setIfInBounds_toArray, List.set_cons_zero, List.set_cons_succ]
  refine wpAnyH_done (by kernel_rfl) ?_ _
  go_wp2_with fail
  refine bodyPost_ret (v := .agg #[.int .i64 o, .int .i64 c, .int .i64 k, .int .i64 l, .int .i64 hh, .int .i64 n, .int .i64 s, .int .i64 s]) ?_ rfl ⟨rfl, HB9.out⟩
  simp [results, Try.results18, go_sem, r0, r1, r2, r3, r4, r5, r6, r7]

/-- The reference's plan of two shapes that may be together. -/
theorem refof_any (W x : TV) (s : Int) (w : World) (h : W.At w) (h' : x.At w) (hE : toldE W.ss x.ss s = 0) :
    Calls Try.prog 18 #[.slice W.sa W.sl W.sc, .slice x.sa x.sl x.sc, .int .i64 s] w fun e w' => e = .returned (planV (planOf W.ss x.ss s)) ∧ Below w.heap.size w w' := by
  obtain ⟨t1, t2, t3⟩ := told_parts hE
  obtain ⟨g1, g1', -, -, -⟩ := formOk_parts t1
  obtain ⟨wa, wl, wc, ws, W5, W6, W7, W8⟩ := W
  obtain ⟨xa, xl, xc, xs, x5, x6, x7, x8⟩ := x
  have k1 : IntsAt w wa wl ws := h.1
  have k2 : IntsAt w xa xl xs := h'.1
  have aw := (rightS_parts g1).2.2.1
  have ax := (rightS_parts g1').2.2.1
  simp only at t1 t2 aw ax ⊢
  rcases form_cases t1 with ⟨o, c, l, n, rfl, rfl⟩ | ⟨o, c, k, l, hh, n, rfl, rfl⟩
  · have e1 := k1.1
    have e2 := k2.1
    simp at e1 e2
    subst e1 e2
    have w1 : winE n l s = 0 := by
      have : decide (winE n l s = 0) = true := t2
      exact of_decide_eq_true this
    obtain ⟨⟨n1, n2⟩, ⟨l1, l2⟩, ⟨s1, s2⟩, ln⟩ := winE_ok w1
    have o1 := allR_getD aw 0 (by simp)
    have c1 := allR_getD aw 1 (by simp)
    simp at o1 c1
    rw [plan_two (by omega) (by omega) (by omega) (by omega) (by omega)]
    exact refof_2 wa wc o c l xa xc n s w k1 k2
  · have e1 := k1.1
    have e2 := k2.1
    simp at e1 e2
    subst e1 e2
    have w2 : (decide (winE hh k s = 0) && decide (winE n l s = 0)) = true := t2
    rw [Bool.and_eq_true] at w2
    have w0 : winE hh k s = 0 := of_decide_eq_true w2.1
    have w1 : winE n l s = 0 := of_decide_eq_true w2.2
    obtain ⟨⟨g1, g2⟩, ⟨k1', k2'⟩, -, kh⟩ := winE_ok w0
    obtain ⟨⟨n1, n2⟩, ⟨l1, l2⟩, ⟨s1, s2⟩, ln⟩ := winE_ok w1
    have o1 := allR_getD aw 0 (by simp)
    have c1 := allR_getD aw 1 (by simp)
    simp at o1 c1
    rw [plan_three (by omega) (by omega) (by omega) (by omega) (by omega) (by omega) (by omega)]
    exact refof_3 wa wc o c k l xa xc hh n s w k1 k2
end Go.Proofs.Ytapelgjnnccfoaa

/-
  Contracts of the reference package of layer 1: each function's result, for every argument.
-/
namespace Go.Proofs.Ytapelgjnnccfoaa
open Go.RowKit
set_option linter.unusedVariables false
set_option linter.unusedSimpArgs false

set_option maxHeartbeats 400000 in
theorem refmag_any (x : Int) (w : World) (h1 : -9223372036854775808 ≤ x) (h2 : x ≤ 9223372036854775807) :
    Calls Try.prog 54 #[.int .i64 x] w fun e w' => e = .returned (.int .u64 (mag x)) ∧ w = w' := by
  go_enter Try.func54, Try.ntmps54
  go_wp2
  all_goals
    go_ret
    exact ⟨ret_int (by unfold mag; split <;> omega), rfl⟩

set_option maxHeartbeats 400000 in
theorem held_any (n : Int) (over negative : Bool) (w : World) (h0 : 0 ≤ n) (h1 : n < 18446744073709551616) :
    Calls Try.prog 55 #[.int .u64 n, .bool over, .bool negative] w fun e w' => e = .returned (.int .i64 (heldF n over negative)) ∧ w = w' := by
  cases over <;> cases negative
  · go_enter Try.func55, Try.ntmps55
    go_wp2
    all_goals
      go_ret
      exact ⟨ret_int (by (first | rw [heldF_false] | rw [heldF_true]); (unfold sgn; first | (rw [if_pos (by omega)]; rfl) | (rw [if_neg (by omega)]; rfl))), rfl⟩
  · rcases Int.lt_trichotomy n 9223372036854775808 with c | c | c
    · have d : (n == 9223372036854775808) = false := by rw [beq_eq_false_iff_ne]; omega
      go_enter Try.func55, Try.ntmps55
      go_wp2
      go_ret
      exact ⟨ret_int (by (first | rw [heldF_false] | rw [heldF_true]); (unfold sgn; rw [if_pos c]; rfl)), rfl⟩
    · subst c
      go_enter Try.func55, Try.ntmps55
      go_wp2
      go_ret
      exact ⟨ret_int (by (first | rw [heldF_false] | rw [heldF_true]); (unfold sgn; rfl)), rfl⟩
    · go_enter Try.func55, Try.ntmps55
      go_wp2
      go_ret
      exact ⟨ret_int (by (first | rw [heldF_false] | rw [heldF_true]); (unfold sgn; rw [if_neg (by omega)]; rfl)), rfl⟩
  · go_enter Try.func55, Try.ntmps55
    go_wp2
    go_ret
    exact ⟨ret_int (by (first | rw [heldF_false] | rw [heldF_true]); (unfold sgn; rfl)), rfl⟩
  · go_enter Try.func55, Try.ntmps55
    go_wp2
    go_ret
    exact ⟨ret_int (by (first | rw [heldF_false] | rw [heldF_true]); (unfold sgn; rfl)), rfl⟩

set_option maxHeartbeats 400000 in
theorem refadd_any (x y : Int) (w : World) (hx1 : -9223372036854775808 ≤ x) (hx2 : x ≤ 9223372036854775807) (hy1 : -9223372036854775808 ≤ y) (hy2 : y ≤ 9223372036854775807) :
    Calls Try.prog 37 #[.int .i64 x, .int .i64 y] w fun e w' => e = .returned (.int .i64 (sat (x + y))) ∧ w = w' := by
  go_enter Try.func37, Try.ntmps37
  go_wp2
  all_goals
    go_ret
    exact ⟨ret_int (by unfold sat; split <;> (try split) <;> omega), rfl⟩

theorem ret_wide {a b c d : Int} (h : a = b) (h' : c = d) : Ending.returned (.agg #[.int .u64 a, .int .u64 c]) = .returned (.agg #[.int .u64 b, .int .u64 d]) := by rw [h, h']

set_option maxHeartbeats 400000 in
theorem double_any (h l : Int) (w : World) (h0 : 0 ≤ h) (h1 : h < 9223372036854775808) (l0 : 0 ≤ l) (l1 : l < 18446744073709551616) :
    Calls Try.prog 63 #[.agg #[.int .u64 h, .int .u64 l]] w fun e w' => e = .returned (.agg #[.int .u64 (h * 2 + l / 9223372036854775808), .int .u64 (l * 2 % 18446744073709551616)]) ∧ Below w.heap.size w w' := by
  have c := or_even h (l / 9223372036854775808) h0 h1 (by omega) (by omega)
  have d := wrap64u (l * 2)
  go_enter Try.func63, Try.ntmps63
  go_wp2
  exact bodyPost_ret (v := .agg #[.int .u64 (h * 2 + l / 9223372036854775808), .int .u64 (l * 2 % 18446744073709551616)]) (by simp [results, Try.results63, go_sem]) rfl ⟨rfl, ((Below.refl _ _).alloc (Nat.le_refl _) _).alloc (by simp) _⟩

set_option maxHeartbeats 400000 in
theorem plus_any (h l k m : Int) (w : World) (h0 : 0 ≤ h) (h1 : h < 9223372036854775808) (l0 : 0 ≤ l) (l1 : l < 18446744073709551616) (k0 : 0 ≤ k) (k1 : k < 9223372036854775808) (m0 : 0 ≤ m) (m1 : m < 18446744073709551616) :
    Calls Try.prog 64 #[.agg #[.int .u64 h, .int .u64 l], .agg #[.int .u64 k, .int .u64 m]] w fun e w' => e = .returned (.agg #[.int .u64 (h + k + (l + m) / 18446744073709551616), .int .u64 ((l + m) % 18446744073709551616)]) ∧ Below w.heap.size w w' := by
  by_cases c : l + m < 18446744073709551616
  · go_enter Try.func64, Try.ntmps64
    go_wp2
    exact bodyPost_ret (v := .agg #[.int .u64 (h + k), .int .u64 (l + m)]) (by simp [results, Try.results64, go_sem]) rfl ⟨ret_wide (by omega) (by omega), ((((Below.refl _ _).alloc (Nat.le_refl _) _).alloc (by simp) _).alloc (by simp; omega) _).alloc (by simp; omega) _⟩
  · have d : IntKind.u64.wrap (l + m) = l + m - 18446744073709551616 := by rw [wrap64u]; omega
    go_enter Try.func64, Try.ntmps64
    go_wp2
    exact bodyPost_ret (v := .agg #[.int .u64 (h + k + 1), .int .u64 (l + m - 18446744073709551616)]) (by simp [results, Try.results64, go_sem]) rfl ⟨ret_wide (by omega) (by omega), ((((Below.refl _ _).alloc (Nat.le_refl _) _).alloc (by simp) _).alloc (by simp; omega) _).alloc (by simp; omega) _⟩

theorem double_val (V : Int) (w : World) (h0 : 0 ≤ V) (h1 : V < 170141183460469231731687303715884105728) :
    Calls Try.prog 63 #[.agg #[.int .u64 (V / 18446744073709551616), .int .u64 (V % 18446744073709551616)]] w fun e w' => e = .returned (.agg #[.int .u64 (V * 2 / 18446744073709551616), .int .u64 (V * 2 % 18446744073709551616)]) ∧ Below w.heap.size w w' := by
  refine (double_any _ _ w (by omega) (by omega) (by omega) (by omega)).mono fun e w' ⟨he, hb⟩ => ⟨he.trans (ret_wide (by omega) (by omega)), hb⟩

theorem plus_val (V a : Int) (w : World) (h0 : 0 ≤ V) (h1 : V < 170141183460469231731687303715884105728) (a0 : 0 ≤ a) (a1 : a < 18446744073709551616) :
    Calls Try.prog 64 #[.agg #[.int .u64 (V / 18446744073709551616), .int .u64 (V % 18446744073709551616)], .agg #[.int .u64 0, .int .u64 a]] w fun e w' => e = .returned (.agg #[.int .u64 ((V + a) / 18446744073709551616), .int .u64 ((V + a) % 18446744073709551616)]) ∧ Below w.heap.size w w' := by
  refine (plus_any _ _ 0 a w (by omega) (by omega) (by omega) (by omega) (by omega) (by omega) a0 a1).mono fun e w' ⟨he, hb⟩ => ⟨he.trans (ret_wide (by omega) (by omega)), hb⟩

end Go.Proofs.Ytapelgjnnccfoaa

/-
  Contracts of the reference package of layer 1: the product by its bits.
-/
namespace Go.Proofs.Ytapelgjnnccfoaa
open Go.RowKit
set_option linter.unusedVariables false
set_option linter.unusedSimpArgs false

/-- A block of the call's own holds two words. -/
def TwoAt (w : World) (b : Nat) (h l : Int) : Prop :=
  w.cell? ⟨b, 0, none⟩ = some (.int .u64 h) ∧ w.cell? ⟨b, 1, none⟩ = some (.int .u64 l) ∧ w.frozen? ⟨b, 0, none⟩ = false ∧ w.frozen? ⟨b, 1, none⟩ = false

theorem TwoAt.below {W w1 : World} {b : Nat} {h l : Int} (t : TwoAt W b h l) (hb : Below W.heap.size W w1) (hs : b < W.heap.size) : TwoAt w1 b h l :=
  ⟨((bcell hb).1 b 0 hs).trans t.1, ((bcell hb).1 b 1 hs).trans t.2.1, ((bcell hb).2 b 0 hs).trans t.2.2.1, ((bcell hb).2 b 1 hs).trans t.2.2.2⟩

theorem TwoAt.store {w : World} {b : Nat} {h l : Int} (t : TwoAt w b h l) (h' l' : Int) :
    TwoAt ((w.setCell ⟨b, 0, none⟩ (.int .u64 h')).setCell ⟨b, 1, none⟩ (.int .u64 l')) b h' l' := by
  obtain ⟨t1, t2, t3, t4⟩ := t
  refine ⟨?_, ?_, ?_, ?_⟩
  · rw [World.cell?_setCell_other _ _ _ _ (by simp), World.cell?_setCell_same _ _ _ t1]
  · exact World.cell?_setCell_same _ _ _ (u := .int .u64 l) (by rw [World.cell?_setCell_other _ _ _ _ (by simp)]; exact t2)
  · simp [t3]
  · simp [t4]
theorem TwoAt.other {w : World} {b c : Nat} {h l : Int} (t : TwoAt w b h l) (hne : c ≠ b) (o : Nat) (v : Value) : TwoAt (w.setCell ⟨c, o, none⟩ v) b h l := by
  obtain ⟨t1, t2, t3, t4⟩ := t
  refine ⟨?_, ?_, ?_, ?_⟩
  · rw [World.cell?_setCell_other _ _ _ _ (by simp [hne])]; exact t1
  · rw [World.cell?_setCell_other _ _ _ _ (by simp [hne])]; exact t2
  · simp [t3]
  · simp [t4]

set_option maxHeartbeats 400000 in
theorem refproduct_any (a b : Int) (w : World) (a0 : 0 ≤ a) (a1 : a ≤ 9223372036854775808) (b0 : 0 ≤ b) (b1 : b ≤ 9223372036854775808) :
    Calls Try.prog 53 #[.int .u64 a, .int .u64 b] w fun e w' => e = .returned (.agg #[.int .u64 (a * b / 18446744073709551616), .int .u64 (a * b % 18446744073709551616)]) ∧ Below w.heap.size w w' := by
  go_enter Try.func53, Try.ntmps53
  go_wp2
  go_loopw [6] (fun i wr => ∃ n : Nat, n ≤ 64 ∧ i = .int .i64 ((n : Int) - 1) ∧ w.heap.size + 2 ≤ wr.heap.size ∧
      TwoAt wr w.heap.size 0 0 ∧ TwoAt wr (w.heap.size + 1) (a * topBits b n / 18446744073709551616) (a * topBits b n % 18446744073709551616) ∧ Below w.heap.size w wr) (fun i _ => (intOf i + 1).toNat)
  case atStart =>
    have z : topBits b 64 = 0 := topBits_top b 64 b0 (by omega)
    refine ⟨64, by omega, rfl, by simp, ?_, ?_, ((Below.refl _ _).alloc (Nat.le_refl _) _).alloc (by simp) _⟩
    · refine ⟨?_, ?_, ?_, ?_⟩ <;> go_simp
    · rw [z, Int.mul_zero]
      refine ⟨?_, ?_, ?_, ?_⟩ <;> go_simp
  case round =>
    obtain ⟨n, hn, rfl, hsz, ⟨r1, r2, r3, r4⟩, ⟨c1, c2, c3, c4⟩, hb⟩ := hrel
    rcases n with _ | m
    · rw [topBits_zero] at c1 c2
      go_wp2_with fail
      exact bodyPost_ret (v := .agg #[.int .u64 (a * b / 18446744073709551616), .int .u64 (a * b % 18446744073709551616)]) (by simp [results, Try.results53, go_sem, r1, r2]) rfl ⟨rfl, (hb.setCell (by simp) _).setCell (by simp) _⟩
    · obtain ⟨V, hV⟩ : ∃ V, V = a * topBits b (m + 1) := ⟨_, rfl⟩
      rw [← hV] at c1 c2
      have vb := prod_le (B := 4611686018427387904) a0 (topBits_nonneg b (m + 1) b0) a1 (Int.le_trans (topBits_le_half b m b0) (by omega))
      rw [← hV] at vb
      obtain ⟨v0, v1⟩ := vb
      have hstep := mul_topBits a b m
      rw [← hV] at hstep
      have HV := Lib.hid hV; clear hV
      have D := Lib.hid (double_val V wr v0 (by omega))
      have hbit : bits .and .u64 (b / 2 ^ m) 1 = topBits b m % 2 := and1 _ (topBits_nonneg b m b0) (by have := topBits_le b m b0; unfold topBits at this; omega)
      by_cases c : topBits b m % 2 = 1
      · have cb : (bits .and .u64 (b / 2 ^ m) 1 == 1) = true := by rw [hbit, c]; rfl
        rw [c, Int.mul_one] at hstep
        have HS := Lib.hid hstep
        clear hbit c hstep
        rw [show ((m + 1 : Nat) : Int) - 1 = (m : Int) from by omega]
        go_wp2_with fail
        refine D.out.mono ?_
        rintro e w1 ⟨rfl, hb1⟩
        have hz := hb1.size
        have X := TwoAt.below ⟨c1, c2, c3, c4⟩ hb1 (by omega)
        have Y := TwoAt.below ⟨r1, r2, r3, r4⟩ hb1 (by omega)
        have hx := X
        obtain ⟨x1, x2, x3, x4⟩ := hx
        clear c1 c2 c3 c4 r1 r2 r3 r4
        go_wp2_with fail
        have X1 := X.store (V * 2 / 18446744073709551616) (V * 2 % 18446744073709551616)
        have Y1 := (Y.other (c := w.heap.size + 1) (by omega) 0 (.int .u64 (V * 2 / 18446744073709551616))).other (c := w.heap.size + 1) (by omega) 1 (.int .u64 (V * 2 % 18446744073709551616))
        clear x1 x2 x3 x4
        refine (plus_val (V * 2) a _ (by omega) (by omega) a0 (by omega)).mono ?_
        rintro e w2 ⟨rfl, hb2⟩
        have X2 := X1.below hb2 (by simp; omega)
        have Y2 := Y1.below hb2 (by simp; omega)
        have hz2 := hb2.size
        simp at hz2
        have hx := X2
        obtain ⟨x1, x2, x3, x4⟩ := hx
        go_wp2_with fail
        refine ⟨⟨m, by omega, rfl, by (simp; try omega), (Y2.other (by omega) _ _).other (by omega) _ _, ?_, ?_⟩, by (simp [intOf]; try omega)⟩
        · rw [HS.out]; exact X2.store _ _
        · exact ((((hb.trans (hb1.mono (by omega))).setCell (by simp) _).setCell (by simp) _).trans (hb2.mono (by simp; omega))).setCell (by simp) _ |>.setCell (by simp) _
      · have c' : topBits b m % 2 = 0 := by omega
        have cb : (bits .and .u64 (b / 2 ^ m) 1 == 1) = false := by rw [hbit, c']; rfl
        rw [c', Int.mul_zero, Int.add_zero] at hstep
        have HS := Lib.hid hstep
        clear hbit c c' hstep
        rw [show ((m + 1 : Nat) : Int) - 1 = (m : Int) from by omega]
        go_wp2_with fail
        refine D.out.mono ?_
        rintro e w1 ⟨rfl, hb1⟩
        have hz := hb1.size
        have X := TwoAt.below ⟨c1, c2, c3, c4⟩ hb1 (by omega)
        have Y := TwoAt.below ⟨r1, r2, r3, r4⟩ hb1 (by omega)
        have hx := X
        obtain ⟨x1, x2, x3, x4⟩ := hx
        clear c1 c2 c3 c4 r1 r2 r3 r4
        go_wp2_with fail
        refine ⟨⟨m, by omega, rfl, by (simp; try omega), (Y.other (by omega) _ _).other (by omega) _ _, ?_, ?_⟩, by (simp [intOf]; try omega)⟩
        · rw [HS.out]; exact X.store _ _
        · exact ((hb.trans (hb1.mono (by omega))).setCell (by simp) _).setCell (by simp) _
end Go.Proofs.Ytapelgjnnccfoaa

/-
  The reference product of layer 1 is the product of the plain mathematics.
-/
namespace Go.Proofs.Ytapelgjnnccfoaa
open Go.RowKit
set_option linter.unusedVariables false
set_option linter.unusedSimpArgs false

theorem refm_up (neg : Bool) (P Q : Int) (h0 : 0 ≤ P) (hQ : P / 4294967296 % 18446744073709551616 = Q) (hu : up (P / 4294967296) (P % 4294967296) 4294967296 = true) (hq : Q + 1 < 18446744073709551616) :
    heldF (Q + 1) (decide (0 < P / 18446744073709551616 / 4294967296)) neg = sgn neg (rndFull (P / 4294967296) (P % 4294967296) 4294967296) := by
  unfold heldF rndFull
  rw [if_pos hu]
  by_cases c : 0 < P / 18446744073709551616 / 4294967296
  · rw [if_pos (by simpa using c), sgn_big _ _ (by omega), sgn_big _ _ (by omega)]
  · rw [if_neg (by simpa using c)]
    congr 1; omega
theorem refm_wrap (neg : Bool) (P Q : Int) (h0 : 0 ≤ P) (hQ : P / 4294967296 % 18446744073709551616 = Q) (hu : up (P / 4294967296) (P % 4294967296) 4294967296 = true) (hq : Q + 1 = 18446744073709551616) :
    heldF 0 true neg = sgn neg (rndFull (P / 4294967296) (P % 4294967296) 4294967296) := by
  unfold rndFull
  rw [if_pos hu, heldF_true, sgn_big _ _ (by omega), sgn_big _ _ (by omega)]
theorem refm_no (neg : Bool) (P Q : Int) (h0 : 0 ≤ P) (hQ : P / 4294967296 % 18446744073709551616 = Q) (hu : up (P / 4294967296) (P % 4294967296) 4294967296 = false) :
    heldF Q (decide (0 < P / 18446744073709551616 / 4294967296)) neg = sgn neg (rndFull (P / 4294967296) (P % 4294967296) 4294967296) := by
  unfold heldF
  have hr : rndFull (P / 4294967296) (P % 4294967296) 4294967296 = P / 4294967296 := if_neg (by rw [hu]; decide)
  rw [hr]
  by_cases c : 0 < P / 18446744073709551616 / 4294967296
  · rw [if_pos (by simpa using c), sgn_big _ _ (by omega), sgn_big _ _ (by omega)]
  · rw [if_neg (by simpa using c)]
    congr 1; omega

set_option maxHeartbeats 1000000 in
theorem refmul_any (x y : Int) (w : World) (hx1 : -9223372036854775808 ≤ x) (hx2 : x ≤ 9223372036854775807) (hy1 : -9223372036854775808 ≤ y) (hy2 : y ≤ 9223372036854775807) :
    Calls Try.prog 38 #[.int .i64 x, .int .i64 y] w fun e w' => e = .returned (.int .i64 (mulF x y)) ∧ Below w.heap.size w w' := by
  obtain ⟨mx0, mx1⟩ := mag_bounds x hx1 hx2
  obtain ⟨my0, my1⟩ := mag_bounds y hy1 hy2
  have C1 := Lib.hid (fun w => refmag_any x w hx1 hx2)
  have C2 := Lib.hid (fun w => refmag_any y w hy1 hy2)
  have C3 := Lib.hid (fun w => refproduct_any (mag x) (mag y) w mx0 mx1 my0 my1)
  have hP0 : 0 ≤ mag x * mag y := Int.mul_nonneg mx0 my0
  have D : Hid (mulF x y = sgn (decide (x < 0) != decide (y < 0)) (rndFull (mag x * mag y / 4294967296) (mag x * mag y % 4294967296) 4294967296)) := rfl
  clear mx0 mx1 my0 my1 hx1 hx2 hy1 hy2
  generalize mag x * mag y = P at *
  have hor := or_mid_wrap P hP0
  have hre := low_rest P
  obtain ⟨Q, hQ⟩ : ∃ Q, P / 4294967296 % 18446744073709551616 = Q := ⟨_, rfl⟩
  rw [hQ] at hor
  have q0 : 0 ≤ Q := by omega
  have q1 : Q < 18446744073709551616 := by omega
  have key : (2147483648 < P % 4294967296 ∧ up (P / 4294967296) (P % 4294967296) 4294967296 = true) ∨
      (¬ 2147483648 < P % 4294967296 ∧ (P % 4294967296 == 2147483648) = true ∧ (Q % 2 == 1) = true ∧ up (P / 4294967296) (P % 4294967296) 4294967296 = true) ∨
      (¬ 2147483648 < P % 4294967296 ∧ (P % 4294967296 == 2147483648) = true ∧ (Q % 2 == 1) = false ∧ up (P / 4294967296) (P % 4294967296) 4294967296 = false) ∨
      (¬ 2147483648 < P % 4294967296 ∧ (P % 4294967296 == 2147483648) = false ∧ up (P / 4294967296) (P % 4294967296) 4294967296 = false) := by
    by_cases r1 : 2147483648 < P % 4294967296
    · exact .inl ⟨r1, up_a (by omega)⟩
    · by_cases r2 : P % 4294967296 = 2147483648
      · by_cases r3 : Q % 2 = 1
        · exact .inr (.inl ⟨r1, beq_iff_eq.2 r2, beq_iff_eq.2 r3, up_b (by omega) (by omega)⟩)
        · exact .inr (.inr (.inl ⟨r1, beq_iff_eq.2 r2, beq_eq_false_iff_ne.2 r3, up_c (by omega) (by omega)⟩))
      · exact .inr (.inr (.inr ⟨r1, beq_eq_false_iff_ne.2 r2, up_d (by omega) (by omega)⟩))
  have HQ := Lib.hid hQ; clear hQ
  rcases key with ⟨r1, hu⟩ | ⟨r1, r2, r3, hu⟩ | ⟨r1, r2, r3, hu⟩ | ⟨r1, r2, hu⟩
  all_goals have HU := Lib.hid hu; clear hu
  · by_cases c : Q + 1 < 18446744073709551616
    · have c1 : (Q + 1 == 0) = false := by rw [beq_eq_false_iff_ne]; omega
      go_enter Try.func38, Try.ntmps38
      go_wp2_with fail
      refine (C1.out _).mono ?_
      rintro e w' ⟨rfl, rfl⟩
      go_wp2_with fail
      refine (C2.out _).mono ?_
      rintro e w' ⟨rfl, rfl⟩
      go_wp2_with fail
      refine (C3.out _).mono ?_
      rintro e w1 ⟨rfl, hb⟩
      go_wp2_with fail
      refine (held_any _ _ _ _ (by omega) (by omega)).mono ?_
      rintro e w' ⟨rfl, rfl⟩
      go_wp2_with fail
      go_ret
      exact ⟨ret_int (by rw [D.out]; exact refm_up _ P Q hP0 HQ.out HU.out c), hb.alloc hb.size _⟩
    · have c2 : Q + 1 = 18446744073709551616 := by omega
      have c1 : IntKind.u64.wrap (Q + 1) = 0 := by rw [wrap64u, c2]; rfl
      have C2' := Lib.hid c2; clear c2
      go_enter Try.func38, Try.ntmps38
      go_wp2_with fail
      refine (C1.out _).mono ?_
      rintro e w' ⟨rfl, rfl⟩
      go_wp2_with fail
      refine (C2.out _).mono ?_
      rintro e w' ⟨rfl, rfl⟩
      go_wp2_with fail
      refine (C3.out _).mono ?_
      rintro e w1 ⟨rfl, hb⟩
      go_wp2_with fail
      refine (held_any _ _ _ _ (by omega) (by omega)).mono ?_
      rintro e w' ⟨rfl, rfl⟩
      go_wp2_with fail
      go_ret
      exact ⟨ret_int (by rw [D.out]; exact refm_wrap _ P Q hP0 HQ.out HU.out C2'.out), hb.alloc hb.size _⟩
  · by_cases c : Q + 1 < 18446744073709551616
    · have c1 : (Q + 1 == 0) = false := by rw [beq_eq_false_iff_ne]; omega
      go_enter Try.func38, Try.ntmps38
      go_wp2_with fail
      refine (C1.out _).mono ?_
      rintro e w' ⟨rfl, rfl⟩
      go_wp2_with fail
      refine (C2.out _).mono ?_
      rintro e w' ⟨rfl, rfl⟩
      go_wp2_with fail
      refine (C3.out _).mono ?_
      rintro e w1 ⟨rfl, hb⟩
      go_wp2_with fail
      refine (held_any _ _ _ _ (by omega) (by omega)).mono ?_
      rintro e w' ⟨rfl, rfl⟩
      go_wp2_with fail
      go_ret
      exact ⟨ret_int (by rw [D.out]; exact refm_up _ P Q hP0 HQ.out HU.out c), hb.alloc hb.size _⟩
    · have c2 : Q + 1 = 18446744073709551616 := by omega
      have c1 : IntKind.u64.wrap (Q + 1) = 0 := by rw [wrap64u, c2]; rfl
      have C2' := Lib.hid c2; clear c2
      go_enter Try.func38, Try.ntmps38
      go_wp2_with fail
      refine (C1.out _).mono ?_
      rintro e w' ⟨rfl, rfl⟩
      go_wp2_with fail
      refine (C2.out _).mono ?_
      rintro e w' ⟨rfl, rfl⟩
      go_wp2_with fail
      refine (C3.out _).mono ?_
      rintro e w1 ⟨rfl, hb⟩
      go_wp2_with fail
      refine (held_any _ _ _ _ (by omega) (by omega)).mono ?_
      rintro e w' ⟨rfl, rfl⟩
      go_wp2_with fail
      go_ret
      exact ⟨ret_int (by rw [D.out]; exact refm_wrap _ P Q hP0 HQ.out HU.out C2'.out), hb.alloc hb.size _⟩
  · go_enter Try.func38, Try.ntmps38
    go_wp2_with fail
    refine (C1.out _).mono ?_
    rintro e w' ⟨rfl, rfl⟩
    go_wp2_with fail
    refine (C2.out _).mono ?_
    rintro e w' ⟨rfl, rfl⟩
    go_wp2_with fail
    refine (C3.out _).mono ?_
    rintro e w1 ⟨rfl, hb⟩
    go_wp2_with fail
    refine (held_any _ _ _ _ (by omega) (by omega)).mono ?_
    rintro e w' ⟨rfl, rfl⟩
    go_wp2_with fail
    go_ret
    exact ⟨ret_int (by rw [D.out]; exact refm_no _ P Q hP0 HQ.out HU.out), hb.alloc hb.size _⟩
  · go_enter Try.func38, Try.ntmps38
    go_wp2_with fail
    refine (C1.out _).mono ?_
    rintro e w' ⟨rfl, rfl⟩
    go_wp2_with fail
    refine (C2.out _).mono ?_
    rintro e w' ⟨rfl, rfl⟩
    go_wp2_with fail
    refine (C3.out _).mono ?_
    rintro e w1 ⟨rfl, hb⟩
    go_wp2_with fail
    refine (held_any _ _ _ _ (by omega) (by omega)).mono ?_
    rintro e w' ⟨rfl, rfl⟩
    go_wp2_with fail
    go_ret
    exact ⟨ret_int (by rw [D.out]; exact refm_no _ P Q hP0 HQ.out HU.out), hb.alloc hb.size _⟩
end Go.Proofs.Ytapelgjnnccfoaa

/-
  Small words for the reference's Run.
-/
namespace Go.Proofs.Ytapelgjnnccfoaa
open Go.RowKit
set_option linter.unusedVariables false
set_option linter.unusedSimpArgs false

theorem wmul {a b q : Nat} (h : a * b = q) (hq : q < 9223372036854775808) : IntKind.i64.wrap ((a : Int) * (b : Int)) = (q : Int) := by rw [← Int.natCast_mul, h]; exact IntWalk.i64_in _ (by omega)
theorem wadd {a b q : Nat} (h : a + b = q) (hq : q < 9223372036854775808) : IntKind.i64.wrap ((a : Int) + (b : Int)) = (q : Int) := by rw [← Int.natCast_add, h]; exact IntWalk.i64_in _ (by omega)
theorem i64_made (t : TypeId) (ht : Try.prog.underlying t = some (.slice 2)) (len : Nat) (hl : len ≤ 65536) : ∀ w, (Instr.makeSlice t (.int .i64 len) (.int .i64 len)).run Try.prog w = .ok (.slice (some ⟨w.heap.size, 0, none⟩) len len) (w.alloc (.cells (madeCells #[.int .i64 0] len) 2)) := by
  intro w
  obtain ⟨i0, hi, hz0, hz1, hz2⟩ := info_parts i64Info
  have := run_make (P := Try.prog) w t 2 i0 _ ht hi hz0 .i64 .i64 len len (by omega) (by omega) (by rw [hz2]; omega) (by omega)
  rw [this, hz1]
  simp [Value.cells]
/-- The cells of a row that is under way: a whole slice of 64-bit numbers in block g; all else is as it was. -/
def RunS (wB : World) (g N : Nat) (zs : List Int) (wr : World) : Prop := wr.ownsRow g 2 1 (.slice (some ⟨g, 0, none⟩) N N) N (zs.map (Value.int .i64)) ∧ Save (fun k => k = g) wB wr
theorem RunS.later {wB : World} {g N : Nat} {zs : List Int} {wr w' : World} (h : RunS wB g N zs wr) (hb : Below wr.heap.size wr w') : RunS wB g N zs w' := ⟨row_kept h.1 hb, h.2.later hb⟩
theorem RunS.set {wB : World} {g N : Nat} {zs : List Int} {wr : World} (h : RunS wB g N zs wr) (j : Nat) (x : Int) : RunS wB g N (zs.set j x) (wr.setCell ⟨g, j, none⟩ (.int .i64 x)) := by
  obtain ⟨h1, -⟩ := h.1.stored j (.int .i64 x)
  rw [← List.map_set] at h1
  exact ⟨h1, h.2.setCell rfl j _⟩
theorem RunS.cell {wB : World} {g N : Nat} {zs : List Int} {wr : World} (h : RunS wB g N zs wr) {j : Nat} (hj : j < N) : wr.cell? ⟨g, j, none⟩ = some (.int .i64 (zs.getD j 0)) ∧ wr.frozen? ⟨g, j, none⟩ = false := by
  refine ⟨?_, h.1.frozenAt j⟩
  have e := h.1.cellAt j (by omega)
  have hl : zs.length = N := by have := h.1.1; simpa using this
  rw [List.getElem?_map, List.getElem?_eq_getElem (by omega)] at e
  rw [e]
  simp [List.getD, List.getElem?_eq_getElem (show j < zs.length by omega)]
theorem RunS.made (w : World) (N : Nat) (hN : N ≤ 65536) : RunS (w.alloc (.cells (madeCells #[.int .i64 0] N) 2)) w.heap.size N (List.replicate N 0) (w.alloc (.cells (madeCells #[.int .i64 0] N) 2)) := by
  refine ⟨?_, Save.refl _ _⟩
  have := World.ownsRow_lit w (base := w.heap.size) (e := 2) (size := 1) (madeCells #[.int .i64 0] N) N (Nat.le_refl _) (by unfold maxLen; omega) (by rw [size_madeCells]; omega)
  rw [toList_madeCells_one] at this
  simpa using this
theorem PlanN.tri_mem (p : PlanN) {o i j c t u : Nat} (ho : o < p.O) (hi : i < p.m) (hj : j < p.n) (hc : c < p.C) (ht : t < p.K) (hu : u < p.L) : p.tri o i j c t u ∈ p.all :=
  partsL_mem.2 ⟨o, ho, partsL_mem.2 ⟨i, hi, partsL_mem.2 ⟨j, hj, partsL_mem.2 ⟨c, hc, partsL_mem.2 ⟨t, ht, partsL_mem.2 ⟨u, hu, List.mem_singleton.2 rfl⟩⟩⟩⟩⟩⟩
end Go.Proofs.Ytapelgjnnccfoaa

