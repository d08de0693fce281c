/-
  Package shape's iterator over the index lists: its contract, by the number of sides.
-/
import Derived.Test.YtieajkpjkhdjeaaIdxA
namespace Go.Proofs.Ytieajkpjkhdjeaa
open Go.RowKit Go.Shelf
attribute [local go_sem] Oper.semAt_some
set_option linter.unusedVariables false
set_option linter.unusedSimpArgs false

theorem idxN_take (zs : List Int) (m : Nat) : ∀ n, n ≤ m → idxN (zs.take m) n = idxN zs n := by
  intro n
  induction n with
  | zero => intro _; rfl
  | succ n ih =>
    intro h
    simp only [idxN]
    rw [ih (by omega)]
    unfold flatN
    congr 1
    funext st
    have : (zs.take m).getD n 0 = zs.getD n 0 := by simp [List.getD, List.getElem?_take, show n < m by omega]
    rw [this]

/-- Between two rounds over the shorter index lists. -/
def IdxI (J : List (List Int) → BSet → World → Prop) (zs : List Int) (n l Bx : Nat) (a : Option Addr) (cap B : Nat) (pre : List (List Int)) (O : BSet) (W : World) : Prop :=
  ∃ X : BSet, J (flatN zs n pre) (fun k => O k ∨ X k) W ∧ (∀ k, B ≤ k → k < B + 3 → X k) ∧ (∀ k, O k → B + 3 ≤ k) ∧ B + 3 ≤ W.heap.size ∧
    W.heap[B]? = some (.cells #[.func (.yield l) #[] #[]] 28 (0, 0)) ∧ W.heap[B + 1]? = some (.cells #[.int .i64 n] 3 (0, 0)) ∧ BackC Bx a (n + 1) cap zs W
/-- A round has said 'no more'. -/
def IdxX (Jx : List (List Int) → BSet → World → Prop) (c : Code) (_ : List (List Int)) (O : BSet) (W : World) : Prop := c = .ret ∧ ∃ (p : List (List Int)) (X : BSet), Jx p (fun k => O k ∨ X k) W

theorem wide_step {O O' X : BSet} {A B : World} (h : ItStep O A O' B) : ItStep (fun k => O k ∨ X k) A (fun k => O' k ∨ X k) B :=
  ⟨h.os, h.tape, h.output, h.size, fun k hk => hk.elim (fun h1 => .inl (h.sub k h1)) .inr, fun k hk => by
    rcases hk with h1 | h1
    · rcases h.new k h1 with h2 | h2
      · exact .inl (.inl h2)
      · exact .inr h2
    · exact .inl (.inr h1), fun k hk => by
    rcases hk with h1 | h1
    · rcases h.top k h1 with h2 | h2
      · exact .inl (.inl h2)
      · exact .inr h2
    · exact .inl (.inr h1), fun k hk hn => h.block k hk (fun h1 => hn (.inl h1))⟩

theorem IdxI.stable {J : List (List Int) → BSet → World → Prop} (sJ : ∀ p, Stable (J p)) (zs : List Int) (n l Bx : Nat) (a : Option Addr) (cap B : Nat) (hB : ∀ k, BackR Bx a k → k < B) (pre : List (List Int)) : Stable (IdxI J zs n l Bx a cap B pre) := by
  rintro O W O' W' ⟨X, h1, h2, h3, h4, h5, h6, h7⟩ hs
  refine ⟨X, sJ _ _ _ _ _ h1 (wide_step hs), h2, ?_, Nat.le_trans h4 hs.size, ?_, ?_, h7.it hs (fun k hk ho => by have := hB k hk; have := h3 k ho; omega)⟩
  · intro k hk
    rcases hs.new k hk with h | h
    · exact h3 k h
    · omega
  · exact (hs.block B (by omega) (fun h => by have := h3 B h; omega)).trans h5
  · exact (hs.block (B + 1) (by omega) (fun h => by have := h3 (B + 1) h; omega)).trans h6
theorem IdxX.stable {Jx : List (List Int) → BSet → World → Prop} (sJx : ∀ p, Stable (Jx p)) (c : Code) (p : List (List Int)) : Stable (IdxX Jx c p) := by
  rintro O W O' W' ⟨hc, q, X, h⟩ hs
  exact ⟨hc, q, X, sJx _ _ _ _ _ h (wide_step hs)⟩

/-- Within a round, when i indices of the last side have been handed over. -/
def IdxL (J : List (List Int) → BSet → World → Prop) (zs : List Int) (n l Bx : Nat) (a : Option Addr) (cap B : Nat) (pre : List (List Int)) (st : List Int) (y : Option Addr × Nat) (O : BSet) (W2 : World) (x : Int) (v : Value) (W : World) : Prop :=
  ∃ (i : Nat) (X : BSet), (i : Int) ≤ x ∧ v = .int .i64 i ∧ J (flatN zs n pre ++ rowN st i) (fun k => O k ∨ X k) W ∧ (∀ k, B ≤ k → k < B + 3 → X k) ∧ B + 3 ≤ W.heap.size ∧
    W.heap[B]? = some (.cells #[.func (.yield l) #[] #[]] 28 (0, 0)) ∧ W.heap[B + 1]? = some (.cells #[.int .i64 n] 3 (0, 0)) ∧ BackC Bx a (n + 1) cap zs W ∧
    IdxE st y O W ∧ RdStep (fun k => BackR (B + 2) a k ∨ O k) W2 W

/-- What yield tells. -/
def YP (J Jx : List (List Int) → BSet → World → Prop) (p : List (List Int)) (M O : BSet) (W : World) (r : Bool × World) : Prop :=
  RdStep M W r.2 ∧ (r.1 = true → J p O r.2) ∧ (r.1 = false → Jx p O r.2)

/-- One element more behind an index list, in new memory. -/
theorem append_idx (st : List Int) (y : Option Addr × Nat) (O : BSet) (w : World) (i : Int) (h : IdxE st y O w) (hl : st.length ≤ 100) (hi1 : -9223372036854775808 ≤ i) (hi2 : i ≤ 9223372036854775807) :
    ∃ g cap w', (Builtin.append_ #[22, 22] 22 #[.slice y.1 st.length st.length, .slice (some ⟨w.heap.size, 0, none⟩) 1 1]).run Try.prog (w.alloc (.cells #[.int .i64 i] 3)).drew = .ok (.slice (some ⟨g, 0, none⟩) (st.length + 1) cap) w' ∧
      w.heap.size ≤ g ∧ g < w'.heap.size ∧ IntsAt w' (some ⟨g, 0, none⟩) (st.length + 1) (st ++ [i]) ∧ st.length + 1 ≤ cap ∧ cap ≤ maxLen ∧ Below w.heap.size w w' := by
  obtain ⟨i0, hi, hz0, hz1, hz2⟩ := info_parts intInfo
  have b0 : Below w.heap.size w (w.alloc (.cells #[.int .i64 i] 3)).drew := ((Below.refl _ _).alloc (Nat.le_refl _) _).drew
  have hnew : ∀ j u, [Value.int .i64 i][j]? = some u → (w.alloc (.cells #[.int .i64 i] 3)).drew.cell? ((⟨w.heap.size, 0, none⟩ : Addr).add j) = some u := by
    intro j u hj
    match j, hj with
    | 0, hj =>
      simp at hj; subst hj
      show (w.alloc _).cell? _ = _
      rw [Addr.add_lit]
      rw [World.cell?_alloc_at _ _ _ _ rfl]; rfl
  have fin : ∀ v' w', w'.ownsRow (w.alloc (.cells #[.int .i64 i] 3)).drew.heap.size 3 1 v' (st.length + 1) (st.map (Value.int .i64) ++ [.int .i64 i]) → (w.alloc (.cells #[.int .i64 i] 3)).drew.grownBy w' none →
      ∃ g cap, v' = .slice (some ⟨g, 0, none⟩) (st.length + 1) cap ∧ w.heap.size ≤ g ∧ g < w'.heap.size ∧ IntsAt w' (some ⟨g, 0, none⟩) (st.length + 1) (st ++ [i]) ∧ st.length + 1 ≤ cap ∧ cap ≤ maxLen ∧ Below w.heap.size w w' := by
    intro v' w' ho hg
    have ho' : w'.ownsRow (w.alloc (.cells #[.int .i64 i] 3)).drew.heap.size 3 1 v' (st.length + 1) ((st ++ [i]).map (Value.int .i64)) := by simpa using ho
    rcases ho'.2 with ⟨-, h0⟩ | ⟨g, cap, cur, rfl, hbg, hh, hnc, hcm, hcs, htk⟩
    · omega
    · have hbg' : w.heap.size + 1 ≤ g := by
        have e : (w.alloc (.cells #[.int .i64 i] 3)).drew.heap.size = w.heap.size + 1 := World.size_alloc w _
        omega
      refine ⟨g, cap, rfl, by omega, (Array.getElem?_eq_some_iff.1 hh).1, row_ints ho' (by omega) ?_, hnc, hcm, b0.trans ?_⟩
      · intro q hq
        rcases List.mem_append.1 hq with h' | h'
        · exact h.1.2.2.1 q h'
        · simp at h'; omega
      · exact (Below.refl _ _).grown hg (show w.heap.size ≤ (w.alloc (.cells #[.int .i64 i] 3)).heap.size by simp) (fun k e => by cases e)
  obtain ⟨⟨h1, h2, h3, h4⟩, g1, g2, g3⟩ := h
  rcases g3 with ⟨rfl, rfl⟩ | ⟨b, hb, hO⟩
  · obtain ⟨v', w', hr, r1, r2, _⟩ := run_append_own (P := Try.prog) (w.alloc (.cells #[.int .i64 i] 3)).drew (w.alloc (.cells #[.int .i64 i] 3)).drew.heap.size 22 22 3 i0 (.int .i64 0) 1 8 Try.underlying22 hi hz0 hz1 hz2 rfl (by decide)
      (.slice none 0 0) 0 [] (World.ownsRow_nil _ _ _ 1) ⟨w.heap.size, 0, none⟩ 1 1 [.int .i64 i] rfl hnew (by intro u hu; simp at hu; subst hu; rfl) (by unfold maxLen; omega) (by omega) (Nat.le_refl _)
    obtain ⟨g, cap, rfl, q⟩ := fin v' w' (by simpa using r1) r2
    exact ⟨g, cap, w', hr, q⟩
  · obtain ⟨y1, y2⟩ := y
    simp only at hb h4
    subst hb
    have holds : ∀ j u, (st.map (Value.int .i64))[j]? = some u → (w.alloc (.cells #[.int .i64 i] 3)).drew.cell? ((⟨b, 0, none⟩ : Addr).add j) = some u := by
      intro j u hj
      have hjl := (List.getElem?_eq_some_iff.1 hj).1
      rw [List.length_map] at hjl
      rcases h4 with h4 | ⟨b2, off, ha, hc⟩
      · omega
      · cases ha
        rw [Addr.add_lit, cell_later b0 (hc j (by omega)), ← hj]
        simp [List.getD, List.getElem?_eq_getElem hjl]
    obtain ⟨v', w', hr, r1, r2⟩ := run_append_arg_grows (P := Try.prog) (w.alloc (.cells #[.int .i64 i] 3)).drew 22 22 3 i0 (.int .i64 0) 1 8 Try.underlying22 hi hz0 hz1 hz2 rfl (by decide)
      ⟨b, 0, none⟩ st.length st.length (st.map (Value.int .i64)) (by simp) holds ⟨w.heap.size, 0, none⟩ 1 1 [.int .i64 i] rfl hnew (by omega) (by unfold maxLen; omega) (by omega)
    obtain ⟨g, cap, rfl, q⟩ := fin v' w' r1 r2
    exact ⟨g, cap, w', hr, q⟩
end Go.Proofs.Ytieajkpjkhdjeaa
