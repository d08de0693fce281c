/-
  Contracts of package tensor: Equal (its deferred closure finds no panic), Make.
-/
import Derived.Test.YtilocmdanjekhaaTenD
import Derived.Tactics
import Derived.Tactics2
import Derived.Defers
import Derived.Recover
import Derived.Laws.Pointers
import Derived.Laws.OwnMore
import Derived.LoopTactic
namespace Go.Proofs.Ytilocmdanjekhaa
open Go.RowKit
set_option linter.unusedVariables false
set_option linter.unusedSimpArgs false

/-- Both tensors have the same shape and the same cells. -/
def sameT (s1 c1 s2 c2 : List Int) : Bool := sameL s1 s2 && sameL c1 c2

theorem bool_box (w : World) (x : Bool) : ∃ wB, Hid (w.alloc (.cells #[.bool x] 4) = wB) ∧ Hid (wB.heap[w.heap.size]? = some (.cells #[.bool x] 4 (0, 0))) ∧ Hid (Below w.heap.size w wB) ∧ Hid (wB.heap.size = w.heap.size + 1) :=
  ⟨_, Lib.hid rfl, Lib.hid (World.alloc_heap_new w _), Lib.hid ((Below.refl _ _).alloc (Nat.le_refl _) _), Lib.hid (by simp)⟩

theorem f_made (t : TypeId) (ht : Try.prog.underlying t = some (.slice 22)) (len : Nat) (hl : len ≤ 65536) : ∀ w, (Instr.makeSlice t (.int .i64 len) (.int .i64 len)).run Try.prog w = .ok (.slice (some ⟨w.heap.size, 0, none⟩) len len) (w.alloc (.cells (madeCells #[.int .i64 0] len) 22)) := by
  intro w
  obtain ⟨i0, hi, hz0, hz1, hz2⟩ := info_parts fInfo
  have := run_make (P := Try.prog) w t 22 i0 _ ht hi hz0 .i64 .i64 len len (by omega) (by omega) (by rw [hz2]; omega) (by omega)
  rw [this, hz1]
  simp [Value.cells]

/-- A row of n numbers, of which the first k are x, the rest 0. -/
def fillR (n k : Nat) (x : Int) : List Int := List.replicate k x ++ List.replicate (n - k) 0
theorem fillR_none (n : Nat) (x : Int) : fillR n 0 x = List.replicate n 0 := by simp [fillR]
theorem fillR_all (n : Nat) (x : Int) : fillR n n x = List.replicate n x := by simp [fillR]
theorem fillR_length {n k : Nat} (x : Int) (h : k ≤ n) : (fillR n k x).length = n := by simp [fillR]; omega
theorem fillR_set {n k : Nat} (x : Int) (h : k < n) : (fillR n k x).set k x = fillR n (k + 1) x := by
  unfold fillR
  rw [List.set_append_right _ _ (by simp), List.length_replicate, Nat.sub_self, show n - k = (n - (k + 1)) + 1 by omega, List.replicate_succ, List.set_cons_zero, List.replicate_succ']
  simp

end Go.Proofs.Ytilocmdanjekhaa