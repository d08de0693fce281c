/-
  Package shape's All: its maker, and the contract of its closure by that of the index lists' iterator.
-/
import Derived.Test.YtieajkpjkhdjeaaIdxB
import Derived.Test.YtieajkpjkhdjeaaShapeU
namespace Go.Proofs.Ytieajkpjkhdjeaa
open Go.RowKit Go.Shelf
attribute [local go_sem] Oper.semAt_some
set_option linter.unusedVariables false
set_option linter.unusedSimpArgs false

/-- The items with their numbers. -/
def enumL {α : Type} : Nat → List α → List (Nat × α)
  | _, [] => []
  | k, x :: l => (k, x) :: enumL (k + 1) l
theorem enumL_append {α : Type} (l m : List α) : ∀ k, enumL k (l ++ m) = enumL k l ++ enumL (k + l.length) m := by
  induction l with
  | nil => intro k; simp [enumL]
  | cons x l ih => intro k; simp [enumL, ih]; congr 1; omega
theorem enumL_snoc {α : Type} (l : List α) (x : α) : enumL 0 (l ++ [x]) = enumL 0 l ++ [(l.length, x)] := by rw [enumL_append]; simp [enumL]
def allV (x : Nat × List Int) (y : Option Addr × Nat) : Array Value := #[.int .i64 x.1, .slice y.1 x.2.length y.2]
def AllE (x : Nat × List Int) (y : Option Addr × Nat) (O : BSet) (W : World) : Prop := IdxE x.2 y O W
def allL (zs : List Int) : List (Nat × List Int) := if rightS zs = true then enumL 0 (idxN zs zs.length) else []

set_option maxHeartbeats 400000 in
theorem all_any (a : Option Addr) (len cap : Nat) (w : World) :
    Calls Try.prog 30 #[.slice a len cap] w fun e w' => e = .returned (.func (.func 38) #[] #[.pointer (some ⟨w.heap.size, 0, none⟩)]) ∧ w.alloc (.cells #[.slice a len cap] 23) = w' := by
  have hmf : ∀ (fn : Fn) (first cap : Array Value) (w : World), (Instr.makeFunc fn first cap).run Try.prog w = .ok (.func fn first cap) w := fun _ _ _ _ => rfl
  go_enter Try.func30, Try.ntmps30
  go_wp2_with fail
  go_ret
  exact ⟨rfl, rfl⟩

set_option maxRecDepth 100000 in
set_option maxHeartbeats 2000000 in
/-- A shape that is not valid has no places. -/
theorem allS_wrong (R : BSet) (Bx : Nat) (a : Option Addr) (len cap : Nat) (zs : List Int) (hr : rightS zs = false) :
    IterOf Try.prog 38 #[.pointer (some ⟨Bx, 0, none⟩)] R (BackC Bx a len cap zs) (allL zs) allV AllE := by
  intro l J Jx sJ sJx hY W hC h0
  have hx : allL zs = [] := by unfold allL; rw [if_neg (by rw [hr]; simp)]
  rw [hx]
  have z1 : Below W.heap.size W (W.alloc (.cells #[.func (.yield l) #[] #[]] 60)) := (Below.refl _ _).alloc (Nat.le_refl _) _
  have k1 := cell_later z1 hC.1
  have RM := rightM_any a len cap zs _ (hC.2.kept z1)
  rw [hr] at RM
  have R1 := Lib.hid RM
  have fin := Lib.hid (fun w2 (hb : Below (W.alloc (.cells #[.func (.yield l) #[] #[]] 60)).heap.size (W.alloc (.cells #[.func (.yield l) #[] #[]] 60)) w2) => sJ [] _ _ _ _ h0 (ItStep.of_below (z1.trans (hb.mono z1.size))))
  clear RM hY hC h0 hx z1
  go_enter Try.func38, Try.ntmps38
  go_wp2_with fail
  refine R1.out.mono ?_
  rintro e w2 ⟨rfl, hb⟩
  have F := Lib.hid (fin.out w2 hb)
  clear hb
  go_wp2_with fail
  refine bodyPost_ret (results_none rfl _ _ _) rfl ?_
  exact ⟨⟨_, rfl⟩, .inl ⟨_, F.out⟩⟩

/-- Between two rounds of All. -/
def AllI (J : List (Nat × List Int) → BSet → World → Prop) (l B Pl N : Nat) (pre : List (List Int)) (O : BSet) (W : World) : Prop :=
  J (enumL 0 pre) (fun k => O k ∨ (B ≤ k ∧ k < N)) W ∧ (∀ k, O k → N ≤ k) ∧ N ≤ W.heap.size ∧ W.heap[B]? = some (.cells #[.func (.yield l) #[] #[]] 60 (0, 0)) ∧
    W.heap[Pl]? = some (.cells #[.int .i64 pre.length] 3 (0, 0))
def AllX (Jx : List (Nat × List Int) → BSet → World → Prop) (B N : Nat) (c : Code) (_ : List (List Int)) (O : BSet) (W : World) : Prop := c = .ret ∧ ∃ p : List (Nat × List Int), Jx p (fun k => O k ∨ (B ≤ k ∧ k < N)) W
theorem AllI.stable {J : List (Nat × List Int) → BSet → World → Prop} (sJ : ∀ p, Stable (J p)) (l B Pl N : Nat) (hB : B < N) (hP : Pl < N) (pre : List (List Int)) : Stable (AllI J l B Pl N pre) := by
  rintro O W O' W' ⟨h1, h3, h4, h5, h6⟩ hs
  refine ⟨sJ _ _ _ _ _ h1 (wide_step hs), ?_, Nat.le_trans h4 hs.size, ?_, ?_⟩
  · intro k hk
    rcases hs.new k hk with h | h
    · exact h3 k h
    · omega
  · exact (hs.block B (by omega) (fun h => by have := h3 B h; omega)).trans h5
  · exact (hs.block Pl (by omega) (fun h => by have := h3 Pl h; omega)).trans h6
theorem AllX.stable {Jx : List (Nat × List Int) → BSet → World → Prop} (sJx : ∀ p, Stable (Jx p)) (B N : Nat) (c : Code) (p : List (List Int)) : Stable (AllX Jx B N c p) := by
  rintro O W O' W' ⟨hc, q, h⟩ hs
  exact ⟨hc, q, sJx _ _ _ _ _ h (wide_step hs)⟩
end Go.Proofs.Ytieajkpjkhdjeaa
