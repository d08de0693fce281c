/-
  A range over a function whose iterator keeps state of its own: who may write which blocks.
  O: the blocks that the iterator writes (it made them since its call began). R: blocks that it only reads.
  An iterator's step leaves all other blocks alone; a round leaves the blocks of R and O alone.
-/
import Derived.Test.YtlpecdfiagklpaaInts
import Derived.RangeFuncLeaves
import Derived.RangeFuncRecord
import Derived.RangeFuncSeq
import Derived.RangeFuncOwn
import Derived.Shelf.Abstract
import Derived.OwnWalkIn
namespace Go.Proofs.Ytlpecdfiagklpaa
open Go.RowKit Go.Shelf
set_option linter.unusedVariables false
set_option linter.unusedSimpArgs false

abbrev BSet := Nat → Prop

/-- An iterator's step. -/
structure ItStep (O : BSet) (W : World) (O' : BSet) (W' : World) : Prop where
  os : W'.os = W.os
  tape : W'.tape = W.tape
  output : W'.output = W.output
  size : W.heap.size ≤ W'.heap.size
  sub : ∀ k, O k → O' k
  new : ∀ k, O' k → O k ∨ W.heap.size ≤ k
  top : ∀ k, O' k → O k ∨ k < W'.heap.size
  block : ∀ k, k < W.heap.size → ¬ O k → W'.heap[k]? = W.heap[k]?

/-- A round. -/
structure RdStep (M : BSet) (W W' : World) : Prop where
  os : W'.os = W.os
  tape : W'.tape = W.tape
  output : W'.output = W.output
  size : W.heap.size ≤ W'.heap.size
  block : ∀ k, k < W.heap.size → M k → W'.heap[k]? = W.heap[k]?

theorem ItStep.refl (O : BSet) (W : World) : ItStep O W O W := ⟨rfl, rfl, rfl, Nat.le_refl _, fun _ h => h, fun _ h => .inl h, fun _ h => .inl h, fun _ _ _ => rfl⟩
theorem ItStep.trans {O O' O'' : BSet} {A B C : World} (h : ItStep O A O' B) (k : ItStep O' B O'' C) : ItStep O A O'' C := by
  refine ⟨k.os.trans h.os, k.tape.trans h.tape, k.output.trans h.output, Nat.le_trans h.size k.size, fun j hj => k.sub j (h.sub j hj), ?_, ?_, ?_⟩
  · intro j hj
    rcases k.new j hj with h1 | h1
    · exact h.new j h1
    · exact .inr (Nat.le_trans h.size h1)
  · intro j hj
    rcases k.top j hj with h1 | h1
    · rcases h.top j h1 with h2 | h2
      · exact .inl h2
      · exact .inr (Nat.lt_of_lt_of_le h2 k.size)
    · exact .inr h1
  · intro j hlt hn
    have hn' : ¬ O' j := by
      intro hj
      rcases h.new j hj with h1 | h1
      · exact hn h1
      · omega
    exact (k.block j (Nat.lt_of_lt_of_le hlt h.size) hn').trans (h.block j hlt hn)
theorem ItStep.of_below {O : BSet} {A B : World} (h : Below A.heap.size A B) : ItStep O A O B := ⟨h.os, h.tape, h.output, h.size, fun _ h => h, fun _ h => .inl h, fun _ h => .inl h, fun k hk _ => h.block k hk⟩
theorem ItStep.grow {O O' : BSet} {A : World} (h1 : ∀ k, O k → O' k) (h2 : ∀ k, O' k → O k ∨ A.heap.size ≤ k) (h3 : ∀ k, O' k → O k ∨ k < A.heap.size) : ItStep O A O' A := ⟨rfl, rfl, rfl, Nat.le_refl _, h1, h2, h3, fun _ _ _ => rfl⟩
theorem ItStep.setCell {O : BSet} (W : World) (p : Addr) (v : Value) (h : O p.block) : ItStep O W O (W.setCell p v) := by
  refine ⟨rfl, rfl, rfl, (KeepsOthers.setCell W p v).size, fun _ h => h, fun _ h => .inl h, fun _ h => .inl h, fun k hk hn => ?_⟩
  exact Below.heap_setCell W p v k (fun e => hn (by rw [e]; exact h))
theorem ItStep.putObj {O : BSet} (W : World) (l : Nat) (o : Obj) (h : O l) : ItStep O W O (W.putObj l o) :=
  ⟨rfl, rfl, rfl, by simp, fun _ h => h, fun _ h => .inl h, fun _ h => .inl h, fun k hk hn => World.putObj_heap_other (fun e => hn (by rw [e]; exact h))⟩

theorem RdStep.refl (M : BSet) (W : World) : RdStep M W W := ⟨rfl, rfl, rfl, Nat.le_refl _, fun _ _ _ => rfl⟩
theorem RdStep.trans {M : BSet} {A B C : World} (h : RdStep M A B) (k : RdStep M B C) : RdStep M A C :=
  ⟨k.os.trans h.os, k.tape.trans h.tape, k.output.trans h.output, Nat.le_trans h.size k.size, fun j hlt hj => (k.block j (Nat.lt_of_lt_of_le hlt h.size) hj).trans (h.block j hlt hj)⟩
theorem RdStep.mono {M M' : BSet} {A B : World} (h : RdStep M A B) (hs : ∀ k, M' k → M k) : RdStep M' A B := ⟨h.os, h.tape, h.output, h.size, fun j hlt hj => h.block j hlt (hs j hj)⟩
theorem RdStep.of_below {M : BSet} {A B : World} (h : Below A.heap.size A B) : RdStep M A B := ⟨h.os, h.tape, h.output, h.size, fun k hk _ => h.block k hk⟩
theorem RdStep.setCell {M : BSet} (W : World) (p : Addr) (v : Value) (h : ¬ M p.block) : RdStep M W (W.setCell p v) := by
  refine ⟨rfl, rfl, rfl, (KeepsOthers.setCell W p v).size, fun k hk hm => ?_⟩
  exact Below.heap_setCell W p v k (fun e => h (by rw [← e]; exact hm))
theorem RdStep.putObj {M : BSet} (W : World) (l : Nat) (o : Obj) (h : ¬ M l) : RdStep M W (W.putObj l o) :=
  ⟨rfl, rfl, rfl, by simp, fun k hk hm => World.putObj_heap_other (fun e => h (by rw [← e]; exact hm))⟩
theorem RdStep.cell {M : BSet} {A B : World} (h : RdStep M A B) {p : Addr} {v : Value} (hc : A.cell? p = some v) (hm : M p.block) : B.cell? p = some v :=
  (World.cell?_of_block (h.block p.block (World.block_lt_of_cell? A _ hc) hm)).trans hc
theorem ItStep.cell {O O' : BSet} {A B : World} (h : ItStep O A O' B) {p : Addr} {v : Value} (hc : A.cell? p = some v) (hm : ¬ O p.block) : B.cell? p = some v :=
  (World.cell?_of_block (h.block p.block (World.block_lt_of_cell? A _ hc) hm)).trans hc

/-- What an iterator's step leaves true. -/
def Stable (J : BSet → World → Prop) : Prop := ∀ O W O' W', J O W → ItStep O W O' W' → J O' W'

/-- A block that is not the iterator's stays so. -/
theorem not_own {O O' : BSet} {A B : World} (h : ItStep O A O' B) {k : Nat} (hk : k < A.heap.size) (hn : ¬ O k) : ¬ O' k := fun hj => by
  rcases h.new k hj with h1 | h1
  · exact hn h1
  · omega

/-- The contract of an iterator's value: it hands the items xs to yield, in order, until a round says 'no more'. -/
def IterOf (P : Program) (gf : FuncId) (lb : Array Value) (R : BSet) (C : World → Prop) {α β : Type} (xs : List α) (encs : α → β → Array Value) (Enc : α → β → BSet → World → Prop) : Prop :=
  ∀ (l : Nat) (J Jx : List α → BSet → World → Prop), (∀ p, Stable (J p)) → (∀ p, Stable (Jx p)) →
    (∀ pre x y rest O W, xs = pre ++ x :: rest → J pre O W → Enc x y O W →
      YieldAt Fence.wide 0 P l (encs x y) W fun e W' => RdStep (fun k => R k ∨ O k) W W' ∧ ((e = .returned (.bool true) ∧ J (pre ++ [x]) O W') ∨ (e = .returned (.bool false) ∧ Jx (pre ++ [x]) O W'))) →
    ∀ W, C W → J [] (fun _ => False) W →
    Calls P gf (#[.func (.yield l) #[] #[]] ++ lb) W fun e W' => (∃ v, e = .returned v) ∧ ((∃ O, J xs O W') ∨ (∃ pre O, Jx pre O W'))

theorem yield_any {m : Nat} (m' : Nat) {P : Program} {l : Nat} {args : Array Value} {W : World} {R : Ending → World → Prop} (h : YieldAt Fence.wide m P l args W R) : YieldAt Fence.wide m' P l args W R := by
  obtain ⟨fn, tmps, assign, body, hy, h1, h2⟩ := h
  exact ⟨fn, tmps, assign, body, hy, h1, fun c cs _ => h2 c cs (room_wide _)⟩

/-- How a round may be left. -/
def rdPost {α : Type} (M O : BSet) (I : List α → BSet → World → Prop) (Ix : Code → List α → BSet → World → Prop) (p : List α) (W : World) : Exit → Act → World → Prop
  | .normal, _, W' => RdStep M W W' ∧ I p O W'
  | .ret, _, W' => RdStep M W W' ∧ Ix .ret p O W'
  | .exit id, _, W' => RdStep M W W' ∧ Ix (.exit id) p O W'
  | .goto t, _, W' => RdStep M W W' ∧ Ix (.goto t) p O W'
  | .panic _, _, _ => False
  | .outgrown, _, _ => False

/-- The statement 'for .. := range g { .. }' by the iterator's contract. -/
theorem range_law {P : Program} {n : Nat} {g : Operand} {ps : Array Tmp} {assign body : Code} {Q : Exit → Act → World → Prop} {a : Act} {w : World} {gf : FuncId} {lb : Array Value} {R : BSet} {C : World → Prop}
    {α β : Type} {xs : List α} {encs : α → β → Array Value} {Enc : α → β → BSet → World → Prop}
    (hg : a.eval g = .func (.func gf) #[] lb) (eg : ∀ args w, (callFunc gf args).run P w = .ok (.enter gf args) w)
    (hseq : IterOf P gf lb R C xs encs Enc) (hps : ∀ x y, (encs x y).size = ps.size) (hR : ∀ k, R k → k < w.heap.size)
    (hkeep : ∀ x y O W D l o o', Enc x y O W → W.heap[l]? = some o → o.isCells = false → Enc x y (fun k => O k ∨ k = D ∨ k = l) (W.putObj l o'))
    (hC : ∀ W', Below w.heap.size w W' → C W')
    (I : List α → BSet → World → Prop) (Ix : Code → List α → BSet → World → Prop) (sI : ∀ p, Stable (I p)) (sIx : ∀ c p, Stable (Ix c p)) (h0 : I [] (fun _ => False) w)
    (hround : ∀ (l : Nat) (pre : List α) (x : α) (y : β) (rest : List α) (O : BSet) (W W2 : World), xs = pre ++ x :: rest → I pre O W2 → Enc x y O W2 →
      assign.wpIn (Fence.wide.inRound l) 0 P (Exit.then (fun a' W' => W' = W ∧ body.wpIn (Fence.wide.inRound l) 0 P (rdPost (fun k => R k ∨ O k) O I Ix (pre ++ [x]) W2) a' W2) (fun _ _ _ => False))
        { tmps := (ps.zip (encs x y)).foldl (fun t (p, v) => t.setIfInBounds p v) a.tmps, defers := [] } W)
    (hdone : ∀ (D : Nat) (O : BSet) (W : World), w.heap.size ≤ D → O D → W.heap[D]? = some (.deferred (some [])) → I xs O W → Q .normal { a with defers := { target := .collected D, args := #[] } :: a.defers } W)
    (hstop : ∀ (D : Nat) (O : BSet) (c : Code) (pre : List α) (W : World), w.heap.size ≤ D → O D → W.heap[D]? = some (.deferred (some [])) → Ix c pre O W → c.wpIn Fence.wide n P Q { a with defers := { target := .collected D, args := #[] } :: a.defers } W) :
    (Code.rangeFunc g ps assign body).wpIn Fence.wide n P Q a w := by
  refine wpIn_rangeFunc ?_
  intro fn hfn
  obtain ⟨rec, hrec⟩ : ∃ rec : LoopState → Option Code → Loop, rec = fun st pe => { state := st, pending := pe, fn, tmps := a.tmps, params := ps, assign, body, defers := w.heap.size } := ⟨_, rfl⟩
  obtain ⟨W1, hW1⟩ : ∃ W1, (w.alloc (.deferred (some []))).alloc (.loop (rec .ready none)) = W1 := ⟨_, rfl⟩
  obtain ⟨D, hD⟩ : ∃ D, w.heap.size = D := ⟨_, rfl⟩
  obtain ⟨l, hl⟩ : ∃ l, D + 1 = l := ⟨_, rfl⟩
  have hb1 : Below w.heap.size w W1 := by rw [← hW1]; exact ((Below.refl _ w).alloc (Nat.le_refl _) _).alloc (by simp) _
  have hL1 : W1.heap[l]? = some (.loop (rec .ready none)) := by
    rw [← hW1, ← hl, ← hD]
    have := World.alloc_heap_new (w.alloc (.deferred (some []))) (.loop (rec .ready none))
    rwa [World.size_alloc] at this
  have hK1 : W1.heap[D]? = some (.deferred (some [])) := by rw [← hW1, ← hD]; exact (Below.heap_alloc _ _ _ (by simp)).trans (World.alloc_heap_new w _)
  -- the caller's set: the iterator's blocks and the two of the loop itself
  have hI1 : I [] (fun k => False ∨ k = D ∨ k = l) W1 :=
    sI [] _ w _ W1 h0 ⟨hb1.os, hb1.tape, hb1.output, hb1.size, fun _ h => .inl h, fun k hk => by rcases hk with h | h | h; exact h.elim; exact .inr (by omega); exact .inr (by omega),
      fun k hk => by rcases hk with h | h | h; exact h.elim; all_goals exact .inr (by rw [← hW1, h]; simp; omega), fun k hk _ => hb1.block k hk⟩
  have wide : ∀ {O O' : BSet} {A B : World}, ItStep O A O' B → ItStep (fun k => O k ∨ k = D ∨ k = l) A (fun k => O' k ∨ k = D ∨ k = l) B := fun {O O' A B} h =>
    ⟨h.os, h.tape, h.output, h.size, fun k hk => hk.elim (fun h1 => .inl (h.sub k h1)) .inr, fun k hk => by
      rcases hk with h1 | h1
      · rcases h.new k h1 with h2 | h2
        · exact .inl (.inl h2)
        · exact .inr h2
      · exact .inl (.inr h1), fun k hk => by
      rcases hk with h1 | h1
      · rcases h.top k h1 with h2 | h2
        · exact .inl (.inl h2)
        · exact .inr h2
      · exact .inl (.inr h1), fun k hk hn => h.block k hk (fun h1 => hn (.inl h1))⟩
  have kept : ∀ {O O' : BSet} {A B : World} {k : Nat} {o : Obj}, ItStep O A O' B → ¬ O k → A.heap[k]? = some o → (¬ O' k ∧ B.heap[k]? = some o) := fun {O O' A B k o} h hn hk =>
    ⟨not_own h (Array.getElem?_eq_some_iff.1 hk).1 hn, (h.block k (Array.getElem?_eq_some_iff.1 hk).1 hn).trans hk⟩
  refine ⟨l, [{ target := .collected D, args := #[] }], W1, { target := .fn (.func gf) lb, args := #[.func (.yield l) #[] #[]] }, W1, gf, #[.func (.yield l) #[] #[]] ++ lb, W1, ?_, ?_, fun _ _ => trivial, ?_, fun h => (by simp [Fence.wide] at h), ?_⟩
  · rw [← hW1, hrec, ← hl, ← hD]; exact run_enterLoop_outer _ _ _ _ _
  · simp only [resolve, hg]
    simp [go_sem]
  · simp [invoke, go_sem, eg]
  · refine callsIn_wide.2 ((hseq l
      (fun pre O W => I pre (fun k => O k ∨ k = D ∨ k = l) W ∧ W.heap[l]? = some (.loop (rec .ready none)) ∧ W.heap[D]? = some (.deferred (some [])) ∧ ¬ O l ∧ ¬ O D)
      (fun pre O W => ∃ c, Ix c pre (fun k => O k ∨ k = D ∨ k = l) W ∧ W.heap[l]? = some (.loop (rec .done (some c))) ∧ W.heap[D]? = some (.deferred (some [])) ∧ ¬ O l ∧ ¬ O D)
      (fun p O A O' B ⟨h1, h2, h3, h4, h5⟩ hs => ⟨sI p _ _ _ _ h1 (wide hs), (kept hs h4 h2).2, (kept hs h5 h3).2, (kept hs h4 h2).1, (kept hs h5 h3).1⟩)
      (fun p O A O' B ⟨c, h1, h2, h3, h4, h5⟩ hs => ⟨c, sIx c p _ _ _ _ h1 (wide hs), (kept hs h4 h2).2, (kept hs h5 h3).2, (kept hs h4 h2).1, (kept hs h5 h3).1⟩)
      ?_ W1 (hC W1 hb1) ⟨hI1, hL1, hK1, fun h => h, fun h => h⟩).mono ?_)
    · -- one round
      rintro pre x y rest O W hxs ⟨hi, hrl, hrD, hnl, hnD⟩ he
      have hne : D ≠ l := by omega
      have hlt : l < W.heap.size := (Array.getElem?_eq_some_iff.1 hrl).1
      have hy := run_yield (P := P) (args := encs x y) hrl (by rw [hrec]; exact hps x y)
      rw [hrec] at hy
      refine ⟨fn, _, assign, body, hy, roundIn_of_wpIn hfn ?_⟩
      have hRl : ¬ R l := fun h => by have := hR l h; omega
      have hRD : ¬ R D := fun h => by have := hR D h; omega
      have hl2 : (W.putObj l (.loop { rec .ready none with state := .busy })).heap[l]? = some (.loop { rec .ready none with state := .busy }) := World.putObj_heap_same hlt
      have hk2 : (W.putObj l (.loop { rec .ready none with state := .busy })).heap[D]? = some (.deferred (some [])) := (World.putObj_heap_other hne).trans hrD
      have st2 : ItStep (fun k => O k ∨ k = D ∨ k = l) W (fun k => O k ∨ k = D ∨ k = l) (W.putObj l (.loop { rec .ready none with state := .busy })) := ItStep.putObj W l _ (.inr (.inr rfl))
      refine wpIn_mono (hround l pre x y rest _ W _ hxs (sI _ _ _ _ _ hi st2) (hkeep x y O W D l _ _ he hrl rfl)) ?_
      intro ea aa Wa hea
      cases ea with
      | normal => ?_
      | ret => exact hea
      | exit id => exact hea
      | goto t => exact hea
      | panic ch => exact hea
      | outgrown => exact hea
      obtain ⟨hWa, hbd⟩ := hea
      rw [hWa]
      refine ⟨_, run_beginRound hrl (by rw [hrec]), ?_⟩
      refine wpIn_mono hbd ?_
      have rd2 : RdStep (fun k => R k ∨ O k) W (W.putObj l (.loop { rec .ready none with state := .busy })) := RdStep.putObj W l _ (fun h => h.elim hRl hnl)
      have fin : ∀ (jump : Option Code) (W3 : World), RdStep (fun k => R k ∨ O k ∨ k = D ∨ k = l) (W.putObj l (.loop { rec .ready none with state := .busy })) W3 →
          (Instr.endRound l jump).run P W3 = .ok (.bool jump.isNone) (W3.putObj l (.loop (rec (if jump.isNone then .ready else .done) jump))) ∧
          (W3.putObj l (.loop (rec (if jump.isNone then .ready else .done) jump))).heap[l]? = some (.loop (rec (if jump.isNone then .ready else .done) jump)) ∧
          (W3.putObj l (.loop (rec (if jump.isNone then .ready else .done) jump))).heap[D]? = some (.deferred (some [])) ∧
          ItStep (fun k => O k ∨ k = D ∨ k = l) W3 (fun k => O k ∨ k = D ∨ k = l) (W3.putObj l (.loop (rec (if jump.isNone then .ready else .done) jump))) ∧
          RdStep (fun k => R k ∨ O k) W (W3.putObj l (.loop (rec (if jump.isNone then .ready else .done) jump))) := fun jump W3 hk3 => by
        have hl3 : W3.heap[l]? = _ := (hk3.block l (Array.getElem?_eq_some_iff.1 hl2).1 (.inr (.inr (.inr rfl)))).trans hl2
        have hD3 : W3.heap[D]? = _ := (hk3.block D (Array.getElem?_eq_some_iff.1 hk2).1 (.inr (.inr (.inl rfl)))).trans hk2
        have hr := run_endRound (P := P) jump hl3
        rw [hrec] at hr ⊢
        refine ⟨hr, World.putObj_heap_same (Array.getElem?_eq_some_iff.1 hl3).1, (World.putObj_heap_other hne).trans hD3, ItStep.putObj W3 l _ (.inr (.inr rfl)), ?_⟩
        rw [hrec] at rd2 hk3
        exact (rd2.trans (hk3.mono (fun k hk => hk.elim .inl (fun h => .inr (.inl h))))).trans (RdStep.putObj W3 l _ (fun h => h.elim hRl hnl))
      rintro e a3 W3 hp
      cases e with
      | normal =>
        obtain ⟨hk3, hi3⟩ := hp
        obtain ⟨hr, hl4, hk4, st, rd⟩ := fin none W3 hk3
        exact ⟨_, _, hr, rd, .inl ⟨rfl, sI _ _ _ _ _ hi3 st, hl4, hk4, hnl, hnD⟩⟩
      | ret =>
        obtain ⟨hk3, hi3⟩ := hp
        obtain ⟨hr, hl4, hk4, st, rd⟩ := fin (some .ret) W3 hk3
        exact ⟨_, _, hr, rd, .inr ⟨rfl, .ret, sIx _ _ _ _ _ _ hi3 st, hl4, hk4, hnl, hnD⟩⟩
      | exit id =>
        obtain ⟨hk3, hi3⟩ := hp
        obtain ⟨hr, hl4, hk4, st, rd⟩ := fin (some (.exit id)) W3 hk3
        exact ⟨_, _, hr, rd, .inr ⟨rfl, .exit id, sIx _ _ _ _ _ _ hi3 st, hl4, hk4, hnl, hnD⟩⟩
      | goto t =>
        obtain ⟨hk3, hi3⟩ := hp
        obtain ⟨hr, hl4, hk4, st, rd⟩ := fin (some (.goto t)) W3 hk3
        exact ⟨_, _, hr, rd, .inr ⟨rfl, .goto t, sIx _ _ _ _ _ _ hi3 st, hl4, hk4, hnl, hnD⟩⟩
      | panic ch => exact hp.elim
      | outgrown => exact hp.elim
    · -- behind the iterator
      have hne : D ≠ l := by omega
      rintro e W2 ⟨⟨v, rfl⟩, (⟨O, hi, hl2, hk, hnl, hnD⟩ | ⟨pre, O, c, hi, hl2, hk, hnl, hnD⟩)⟩
      · exact ⟨none, _, by have := run_endLoop (P := P) hl2 (by rw [hrec]; simp); rw [hrec] at this; exact this,
          hdone D _ _ (by omega) (.inr (.inl rfl)) ((World.putObj_heap_other hne).trans hk) (sI _ _ _ _ _ hi (ItStep.putObj W2 l _ (.inr (.inr rfl))))⟩
      · exact ⟨some c, _, by have := run_endLoop (P := P) hl2 (by rw [hrec]; simp); rw [hrec] at this; exact this,
          hstop D _ c pre _ (by omega) (.inr (.inl rfl)) ((World.putObj_heap_other hne).trans hk) (sIx _ _ _ _ _ _ hi (ItStep.putObj W2 l _ (.inr (.inr rfl))))⟩

/-- A piece of code that ends in one way: cut there. -/
theorem region_cut {F : Fence} {n : Nat} {P : Program} {c : Code} {Q : Exit → Act → World → Prop} {K : Act → World → Prop} {a : Act} {w : World} (f : Act → Act) (w₀ : World)
    (h : c.wpIn F n P (fun e a' w' => e = .normal ∧ a' = f a ∧ w' = w₀) a w) (hk : K (f a) w₀) : c.wpIn F n P (Exit.then K Q) a w :=
  wpIn_mono h (by rintro e a' w' ⟨rfl, rfl, rfl⟩; exact hk)

/-- The same where a call's result stays open. -/
def CutP {ι : Type} (H : ι → Prop) (f : ι → Act → Act) (w₀ : ι → World) (a : Act) (e : Exit) (a' : Act) (w' : World) : Prop := ∃ x, H x ∧ e = .normal ∧ a' = f x a ∧ w' = w₀ x
theorem region_cut2 {F : Fence} {n : Nat} {P : Program} {c : Code} {Q : Exit → Act → World → Prop} {K : Act → World → Prop} {a : Act} {w : World} {ι : Type} (H : ι → Prop) (f : ι → Act → Act) (w₀ : ι → World)
    (h : c.wpIn F n P (CutP H f w₀ a) a w) (hk : ∀ x, H x → K (f x a) (w₀ x)) : c.wpIn F n P (Exit.then K Q) a w :=
  wpIn_mono h (by rintro e a' w' ⟨x, hx, rfl, rfl, rfl⟩; exact hk x hx)
/-- The builtin append as a step of a region, by its run. -/
theorem step_append_run {F : Fence} {n : Nat} {P : Program} {ops : Array Oper} {o : Oper} {a : Act} {w : World} {K : Act → World → Prop} {Q : Exit → Act → World → Prop} {E : Prop} (hg : o.guard = none) (s x : Operand) (t : TypeId)
    (ho : o.op = .call { callee := .builtin .append, args := #[s, x], argTypes := #[t, t] }) (sv xv : Value) (hs : a.eval s = sv) (hx : a.eval x = xv) (v : Value) (w' : World)
    (hrun : (Builtin.append_ #[t, t] o.type #[sv, xv]).run P w = .ok v w') (hK : K (a.put o.dst v) w') : if Region.wanted o (yielded ops a.tmps) = true then Oper.wpIn F n P o a w K Q else E := by
  have hw : Region.wanted o (yielded ops a.tmps) = true := by simp [Region.wanted, hg]
  rw [if_pos hw]
  unfold Oper.wpIn
  refine ⟨?_, ?_⟩
  · simp [Oper.about, ho, resolve, Target.leads, Sem.run_pure]
  · rw [Oper.semAt_plain F _ _ (by rw [ho]; intro c hc'; cases hc')]
    simp [execOp, ho, resolve, invoke, builtin, hs, hx, hrun, Result.andThen]
    exact hK

/-- A function returns behind such a loop: the block for the rounds' deferred calls is shut. -/
theorem leaves_mark {P : Program} {n : Nat} {fn : Func} {tmps : Array Value} {Q : Ending → World → Prop} {D : Nat} {W : World} (hD : W.heap[D]? = some (.deferred (some [])))
    (h : LeavesInM Fence.wide n P fn tmps Q [] .returning (W.putObj D (.deferred none))) : LeavesInM Fence.wide n P fn tmps Q [{ target := .collected D, args := #[] }] .returning W :=
  ⟨by simp, .inl ⟨_, _, rfl, run_takeDeferred hD, h⟩⟩
end Go.Proofs.Ytlpecdfiagklpaa
