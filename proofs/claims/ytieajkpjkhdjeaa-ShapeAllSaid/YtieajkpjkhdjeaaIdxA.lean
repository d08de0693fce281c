/-
  Package shape's iterator over the index lists: its maker, and slices.Clip.
-/
import Derived.Test.YtieajkpjkhdjeaaBackW
import Derived.Test.YtieajkpjkhdjeaaHas
import Derived.Test.YtieajkpjkhdjeaaIdxMath
import Derived.ArgAppend
namespace Go.Proofs.Ytieajkpjkhdjeaa
open Go.RowKit Go.Shelf
set_option linter.unusedVariables false
set_option linter.unusedSimpArgs false

set_option maxHeartbeats 400000 in
theorem clip_some (b off len cap : Nat) (w : World) (h : len ≤ cap) (hm : cap ≤ maxLen) :
    Calls Try.prog 42 #[.slice (some ⟨b, off, none⟩) len cap] w fun e w' => e = .returned (.slice (some ⟨b, off, none⟩) len len) ∧ w = w' := by
  unfold maxLen at hm
  go_enter Try.func42, Try.ntmps42
  go_wp2_with fail
  go_ret
  exact ⟨rfl, rfl⟩

set_option maxHeartbeats 400000 in
theorem clip_none (w : World) :
    Calls Try.prog 42 #[.slice none 0 0] w fun e w' => e = .returned (.slice none 0 0) ∧ w = w' := by
  go_enter Try.func42, Try.ntmps42
  go_wp2_with fail
  go_ret
  exact ⟨rfl, rfl⟩

set_option maxHeartbeats 400000 in
theorem indices_any (a : Option Addr) (len cap : Nat) (w : World) :
    Calls Try.prog 39 #[.slice a len cap] w fun e w' => e = .returned (.func (.func 41) #[] #[.pointer (some ⟨w.heap.size, 0, none⟩)]) ∧ w.alloc (.cells #[.slice a len cap] 23) = w' := by
  have hmf : ∀ (fn : Fn) (first cap : Array Value) (w : World), (Instr.makeFunc fn first cap).run Try.prog w = .ok (.func fn first cap) w := fun _ _ _ _ => rfl
  go_enter Try.func39, Try.ntmps39
  go_wp2_with fail
  go_ret
  exact ⟨rfl, rfl⟩

/-- What is handed over with an index list: a slice of these integers, in a block that nobody else writes in the meantime. -/
def IdxE (st : List Int) (y : Option Addr × Nat) (O : BSet) (W : World) : Prop :=
  IntsAt W y.1 st.length st ∧ st.length ≤ y.2 ∧ y.2 ≤ maxLen ∧ ((st = [] ∧ y = (none, 0)) ∨ ∃ b, y.1 = some ⟨b, 0, none⟩ ∧ O b)
def idxV (st : List Int) (y : Option Addr × Nat) : Array Value := #[.slice y.1 st.length y.2]

theorem IdxE.keep {st : List Int} {y : Option Addr × Nat} {O : BSet} {W : World} (D l : Nat) (o o' : Obj) (h : IdxE st y O W) (hl : W.heap[l]? = some o) (hc : o.isCells = false) : IdxE st y (fun k => O k ∨ k = D ∨ k = l) (W.putObj l o') := by
  obtain ⟨⟨h1, h2, h3, h4⟩, g1, g2, g3⟩ := h
  refine ⟨⟨h1, h2, h3, ?_⟩, g1, g2, ?_⟩
  · rcases h4 with h4 | ⟨b, off, ha, hcell⟩
    · exact .inl h4
    · refine .inr ⟨b, off, ha, fun j hj => ?_⟩
      exact cell_kept (hcell j hj) (grownBy_putObj' W l o') (fun r e => by cases e; exact ⟨o, hl, hc⟩)
  · rcases g3 with g3 | ⟨b, hb, hO⟩
    · exact .inl g3
    · exact .inr ⟨b, hb, .inl hO⟩
theorem IdxE.round {st : List Int} {y : Option Addr × Nat} {O M : BSet} {W W' : World} (h : IdxE st y O W) (hs : RdStep M W W') (hM : ∀ k, O k → M k) : IdxE st y O W' := by
  obtain ⟨⟨h1, h2, h3, h4⟩, g1, g2, g3⟩ := h
  refine ⟨⟨h1, h2, h3, ?_⟩, g1, g2, g3⟩
  rcases h4 with h4 | ⟨b, off, ha, hcell⟩
  · exact .inl h4
  · rcases g3 with ⟨rfl, rfl⟩ | ⟨b2, hb, hO⟩
    · exact .inl rfl
    · rw [ha] at hb
      cases hb
      exact .inr ⟨b, 0, ha, fun j hj => hs.cell (hcell j hj) (hM _ hO)⟩
theorem IdxE.mono {st : List Int} {y : Option Addr × Nat} {O O' : BSet} {W : World} (h : IdxE st y O W) (hs : ∀ k, O k → O' k) : IdxE st y O' W :=
  ⟨h.1, h.2.1, h.2.2.1, h.2.2.2.elim .inl (fun ⟨b, hb, hO⟩ => .inr ⟨b, hb, hs _ hO⟩)⟩
theorem BackC.it {Bx : Nat} {a : Option Addr} {n cap : Nat} {zs : List Int} {O O' : BSet} {W W' : World} (h : BackC Bx a n cap zs W) (hs : ItStep O W O' W') (hn : ∀ k, BackR Bx a k → ¬ O k) : BackC Bx a n cap zs W' := by
  obtain ⟨h1, g1, g2, g3, g4⟩ := h
  refine ⟨hs.cell h1 (hn _ (.inl rfl)), g1, g2, g3, ?_⟩
  rcases g4 with g4 | ⟨b, off, rfl, hc⟩
  · exact .inl g4
  · exact .inr ⟨b, off, rfl, fun j hj => hs.cell (hc j hj) (hn _ (.inr ⟨_, rfl, rfl⟩))⟩

attribute [local go_sem] Oper.semAt_some

set_option maxRecDepth 100000 in
set_option maxHeartbeats 2000000 in
/-- No sides: one place, without an index. -/
theorem idx_base (Bx : Nat) (a : Option Addr) (cap : Nat) (zs : List Int) :
    IterOf Try.prog 41 #[.pointer (some ⟨Bx, 0, none⟩)] (BackR Bx a) (BackC Bx a 0 cap []) (idxN zs 0) idxV IdxE := by
  intro l J Jx sJ sJx hY W hC h0
  have c1 := hC.1
  obtain ⟨W1, hW1⟩ : ∃ W1, W.alloc (.cells #[.func (.yield l) #[] #[]] 28) = W1 := ⟨_, rfl⟩
  have hb : Below W.heap.size W W1 := by rw [← hW1]; exact (Below.refl _ _).alloc (Nat.le_refl _) _
  have hc1 := cell_later hb c1
  have hy1 : W1.cell? ⟨W.heap.size, 0, none⟩ = some (.func (.yield l) #[] #[]) := by rw [← hW1, World.cell?_alloc_at _ _ _ _ rfl]; rfl
  have hJ := sJ [] _ _ _ _ h0 (ItStep.of_below hb)
  obtain ⟨fn, tmps, assign, body, hy, hR⟩ := yield_any 0 (hY [] [] (none, 0) [] (fun _ => False) W1 rfl hJ ⟨IntsAt.nil _ _, Nat.le_refl _, by unfold maxLen; omega, .inl ⟨rfl, rfl⟩⟩)
  dsimp only [idxV, List.length_nil] at hy
  subst hW1
  clear hJ hY hC hb
  refine (callsIn_wide (n := 0)).1 ?_
  refine callsIn_of_wp Try.func41 rfl trivial ?_ rfl
  simp only [Try.ntmps41, List.size_toArray, List.length_cons, List.length_nil, Nat.reduceAdd, Nat.reduceSub, Array.replicate_succ, Array.replicate_zero, List.push_toArray, List.append_toArray, List.nil_append, List.cons_append]
  gi_wp2_with fail
  refine ⟨rfl, hR.mono ?_⟩
  rintro e W3 ⟨hrd, (⟨rfl, hJ3⟩ | ⟨rfl, hJx3⟩)⟩
  · clear hrd
    gi_wp2
    refine bodyPost_ret (results_none rfl _ _ _) rfl ?_
    exact ⟨⟨_, rfl⟩, .inl ⟨_, hJ3⟩⟩
  · clear hrd
    gi_wp2
    refine bodyPost_ret (results_none rfl _ _ _) rfl ?_
    exact ⟨⟨_, rfl⟩, .inr ⟨_, _, hJx3⟩⟩
end Go.Proofs.Ytieajkpjkhdjeaa
