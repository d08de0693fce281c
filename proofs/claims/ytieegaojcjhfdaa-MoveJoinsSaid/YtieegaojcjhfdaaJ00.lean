import Derived.WalkKit
import Derived.WalkSpells
import Derived.Lib.Hide
import Derived.LoopTactic
import Derived.OpenShut
import Derived.Below
import Derived.Deep.QuietTactic
import Derived.BigQuiet
import Derived.Deep.Draws
import Derived.Test.YtieegaojcjhfdaaRows
import Derived.Laws.OwnMore
import Derived.Deep.AppendLies
import Derived.Lib.SliceRun
import Derived.Lib.SmallJoins
import Derived.RangeFuncLeaves
import Derived.RangeFuncRecord
import Derived.RangeFuncSeq
import Derived.RangeFuncOwn
import Derived.Shelf.Abstract
import Derived.OwnWalkIn
import Derived.RangeFuncCalls
import Derived.Shelf.RegionOpen
import Derived.TacticsInMore
import Derived.LoopNIn
import Derived.LoopIn
import Derived.ArgAppend
import Derived.RangeFuncBox
/-
  General words for walks: results, slices of 64-bit integers, worlds.
-/
namespace Go.Proofs.Ytieegaojcjhfdaa
open Go.RowKit
set_option linter.unusedVariables false
set_option linter.unusedSimpArgs false

theorem ret_int {k : IntKind} {a b : Int} (h : a = b) : Ending.returned (.int k a) = .returned (.int k b) := by rw [h]
theorem ret_bool {a b : Bool} (h : a = b) : Ending.returned (.bool a) = .returned (.bool b) := by rw [h]
theorem ret_ints2 {k k' : IntKind} {a b c d : Int} (h : a = b) (h' : c = d) : Ending.returned (.tuple #[.int k a, .int k' c]) = .returned (.tuple #[.int k b, .int k' d]) := by rw [h, h']

/-- Every element is an integer of 64 bits. -/
def Fits (l : List Int) : Prop := ∀ n ∈ l, -9223372036854775808 ≤ n ∧ n ≤ 9223372036854775807
theorem Fits.getD {l : List Int} (h : Fits l) (k : Nat) : -9223372036854775808 ≤ l.getD k 0 ∧ l.getD k 0 ≤ 9223372036854775807 := by
  by_cases hk : k < l.length
  · have e : l.getD k 0 = l[k] := by simp [List.getD, List.getElem?_eq_getElem hk]
    rw [e]; exact h _ (List.getElem_mem hk)
  · have e : l.getD k 0 = 0 := by simp [List.getD, List.getElem?_eq_none (show l.length ≤ k by omega)]
    rw [e]; omega

theorem flipW {P : Program} {f : FuncId} {args : Array Value} {w : World} {v : Value} (h : Calls P f args w fun e w' => e = .returned v ∧ w = w') : Calls P f args w fun e w' => e = .returned v ∧ w' = w :=
  h.mono fun _ _ ⟨he, hw⟩ => ⟨he, hw.symm⟩

/-- A slice holds these integers. -/
def IntsAt (w : World) (a : Option Addr) (len : Nat) (zs : List Int) : Prop :=
  zs.length = len ∧ len ≤ 9223372036854775807 ∧ Fits zs ∧ (len = 0 ∨ ∃ b off, a = some ⟨b, off, none⟩ ∧ ∀ j, j < len → w.cell? ⟨b, off + j, none⟩ = some (.int .i64 (zs.getD j 0)))

theorem IntsAt.nil (w : World) (a : Option Addr) : IntsAt w a 0 [] := ⟨rfl, by omega, (fun n hn => (List.not_mem_nil hn).elim), .inl rfl⟩

theorem IntsAt.of_row {w : World} {x : Addr} {len cap : Nat} {zs : List Int} (hl : len ≤ cap) (hm : cap ≤ maxLen) (hz : zs.length = cap)
    (hcell : ∀ i, i < zs.length → w.cell? (x.add i) = some (.int .i64 (zs.getD i 0))) (hwz : ∀ n ∈ zs, (Lit.int .i64 n).wf = true) : IntsAt w (some x) len (zs.take len) := by
  unfold maxLen at hm
  refine ⟨by rw [List.length_take]; omega, by omega, ?_, ?_⟩
  · intro n hn
    have h := hwz n (List.mem_of_mem_take hn)
    simp [Lit.wf, IntKind.min, IntKind.max, IntKind.bits, IntKind.signed] at h
    omega
  · by_cases h0 : len = 0
    · exact .inl h0
    · obtain ⟨b, off, rfl, hc⟩ := ints_at hcell (by omega)
      refine .inr ⟨b, off, rfl, fun j hj => ?_⟩
      rw [hc j (by omega)]
      simp [List.getD, List.getElem?_take, hj]

theorem IntsAt.intro {w : World} {a : Option Addr} {len : Nat} {zs : List Int} (h1 : zs.length = len) (h2 : len ≤ 9223372036854775807) (h3 : Fits zs)
    (h4 : len = 0 ∨ ∃ b off, a = some ⟨b, off, none⟩ ∧ ∀ j, j < len → w.cell? ⟨b, off + j, none⟩ = some (.int .i64 (zs.getD j 0))) : IntsAt w a len zs := ⟨h1, h2, h3, h4⟩

theorem IntsAt.below {w w' : World} {a : Option Addr} {len : Nat} {zs : List Int} (h : IntsAt w a len zs) (hb : ∀ p v, w.cell? p = some v → w'.cell? p = some v) : IntsAt w' a len zs := by
  obtain ⟨h1, h2, h3, h4⟩ := h
  refine ⟨h1, h2, h3, ?_⟩
  rcases h4 with h4 | ⟨b, off, ha, hc⟩
  · exact .inl h4
  · exact .inr ⟨b, off, ha, fun j hj => hb _ _ (hc j hj)⟩

theorem below_drewN' {B : Nat} {a w : World} (h : Below B a w) (n : Nat) : Below B a (w.drewN n) := h.trans ⟨rfl, rfl, rfl, Nat.le_refl _, fun _ _ => rfl⟩

theorem bcell {W w1 : World} (hb : Below W.heap.size W w1) : (∀ b o, b < W.heap.size → w1.cell? ⟨b, o, none⟩ = W.cell? ⟨b, o, none⟩) ∧ (∀ b o, b < W.heap.size → w1.frozen? ⟨b, o, none⟩ = W.frozen? ⟨b, o, none⟩) :=
  ⟨fun b o h => hb.cell (p := ⟨b, o, none⟩) h, fun b o h => hb.frozen (p := ⟨b, o, none⟩) h⟩

theorem IntsAt.kept {w w' : World} {a : Option Addr} {len : Nat} {zs : List Int} (h : IntsAt w a len zs) (hb : Below w.heap.size w w') : IntsAt w' a len zs :=
  h.below fun p v hp => cell_later hb hp

/-- A new slice of these integers. -/
theorem IntsAt.made (W : World) (t : TypeId) (zs : List Int) (n : Nat) (hn : zs.length = n) (h1 : n ≤ 9223372036854775807) (h : Fits zs) :
    IntsAt (W.alloc (.cells (zs.map (Value.int .i64)).toArray t)) (some ⟨W.heap.size, 0, none⟩) n zs := by
  refine ⟨hn, h1, h, .inr ⟨W.heap.size, 0, rfl, ?_⟩⟩
  intro j hj
  rw [World.cell?_alloc_new]
  simp [List.getD, List.getElem?_eq_getElem (show j < zs.length by omega)]
end Go.Proofs.Ytieegaojcjhfdaa

/-
  New slices of 64-bit integers: rows that nobody else holds.
-/
namespace Go.Proofs.Ytieegaojcjhfdaa
open Go.RowKit
set_option linter.unusedVariables false
set_option linter.unusedSimpArgs false

theorem intInfo : (Try.prog.info? 3).map (fun i => (i.zero, i.size, i.bytes)) = some (some (.int .i64 0), 1, 8) := by kernel_rfl

/-- A new row of integers reads as these integers. -/
theorem row_ints {w : World} {B : Nat} {e : TypeId} {A : Option Addr} {n cap : Nat} {zs : List Int} (h : w.ownsRow B e 1 (.slice A n cap) n (zs.map (Value.int .i64))) (h1 : n ≤ 9223372036854775807) (hf : Fits zs) : IntsAt w A n zs := by
  have hl : zs.length = n := by have := h.1; simpa using this
  refine ⟨hl, h1, hf, ?_⟩
  by_cases hn : 0 < n
  · obtain ⟨g, cap', hv⟩ := Joins.ownsRow_form h hn
    simp only [Value.slice.injEq] at hv
    obtain ⟨rfl, -, rfl⟩ := hv
    refine .inr ⟨g, 0, rfl, fun j hj => ?_⟩
    rw [Nat.zero_add, h.cellAt j (by omega)]
    simp [List.getD, List.getElem?_eq_getElem (show j < zs.length by omega)]
  · exact .inl (by omega)

theorem own_ints {w : World} {B : Nat} {e : TypeId} {v : Value} {n : Nat} {zs : List Int} (h : w.ownsRow B e 1 v n (zs.map (Value.int .i64))) (hl : zs.length = n) (h1 : n ≤ 9223372036854775807) (hf : Fits zs) :
    ∃ A cap, v = .slice A n cap ∧ IntsAt w A n zs := by
  rcases Joins.ownsRow_forms h with ⟨rfl, rfl⟩ | ⟨g, cap, rfl⟩
  · exact ⟨_, _, rfl, row_ints h h1 hf⟩
  · exact ⟨_, _, rfl, row_ints h h1 hf⟩

/-- What came back is a new slice of these integers; all that was there before is as it was. -/
def NewInts (w : World) (n : Nat) (zs : List Int) (e : Ending) (w' : World) : Prop :=
  ∃ A cap, e = .returned (.slice A n cap) ∧ w'.ownsRow w.heap.size 3 1 (.slice A n cap) n (zs.map (Value.int .i64)) ∧ Below w.heap.size w w'

theorem Fits.set {l : List Int} (h : Fits l) (k : Nat) (x : Int) (h1 : -9223372036854775808 ≤ x) (h2 : x ≤ 9223372036854775807) : Fits (l.set k x) := by
  intro n hn
  rcases List.mem_or_eq_of_mem_set hn with h' | rfl
  · exact h n h'
  · exact ⟨h1, h2⟩

end Go.Proofs.Ytieegaojcjhfdaa

/-
  Numbers appended one by one to a new row of 64-bit integers.
-/
namespace Go.Proofs.Ytieegaojcjhfdaa
open Go.RowKit
set_option linter.unusedVariables false
set_option linter.unusedSimpArgs false

theorem i64Info : (Try.prog.info? 2).map (fun i => (i.zero, i.size, i.bytes)) = some (some (.int .i64 0), 1, 8) := by kernel_rfl

/-- One number more behind a new row of numbers. -/
theorem snoc_int (L : List Int) (x : Int) : (L ++ [x]).map (Value.int .i64) = L.map (Value.int .i64) ++ [Value.int .i64 x] := by simp
theorem box_cell (w : World) (x : Int) (t : TypeId) : ∀ j u, [Value.int .i64 x][j]? = some u → (w.alloc (.cells #[.int .i64 x] t)).cell? ((⟨w.heap.size, 0, none⟩ : Addr).add j) = some u := by
  intro j u hj
  match j, hj with
  | 0, hj =>
    simp at hj; subst hj
    rw [Addr.add_lit, World.cell?_alloc_at _ _ _ _ rfl]; rfl

theorem take_more {cs : List Int} (d c : Nat) (h : d + c < cs.length) : (cs.drop d).take (c + 1) = (cs.drop d).take c ++ [cs.getD (d + c) 0] := by
  rw [List.take_add_one, List.getElem?_drop]
  simp [List.getD, List.getElem?_eq_getElem h]

/-- What is to be appended lies in a new block. -/
structure Snoc (w0 wr : World) (x : Int) (L0 : List Value) (t : Value) (len : Nat) : Prop where
  row : (wr.alloc (.cells #[.int .i64 x] 2)).ownsRow w0.heap.size 2 1 t len L0
  new : ∀ j u, [Value.int .i64 x][j]? = some u → (wr.alloc (.cells #[.int .i64 x] 2)).cell? ((⟨wr.heap.size, 0, none⟩ : Addr).add j) = some u
  one : ∀ u ∈ [Value.int .i64 x], u.oneCell' = true
  room : len + 1 ≤ maxLen
  bytes : (len + 1) * 8 ≤ 140737488355328
  size : w0.heap.size ≤ (wr.alloc (.cells #[.int .i64 x] 2)).heap.size
theorem snoc_of {w0 wr : World} {L0 : List Value} {t : Value} {len : Nat} (x : Int) (h : wr.ownsRow w0.heap.size 2 1 t len L0) (hb : Below w0.heap.size w0 wr) (hl : len ≤ 1000) : Snoc w0 wr x L0 t len :=
  ⟨h.alloc _, box_cell wr x _, (by intro u hu; simp at hu; subst hu; rfl), by unfold maxLen; omega, by omega, by have := hb.size; simp; omega⟩
theorem snoc_below {w0 wr w5 : World} {L0 : List Value} {t : Value} {len : Nat} {x : Int} (h : wr.ownsRow w0.heap.size 2 1 t len L0) (hb : Below w0.heap.size w0 wr) (hg : (wr.alloc (.cells #[.int .i64 x] 2)).grownBy w5 t.ownBlock) : Below w0.heap.size w0 w5 :=
  (hb.alloc hb.size (.cells #[.int .i64 x] 2)).grown hg (by have := hb.size; simp; omega) (fun q' hq' => (h.lt q' hq').1)

end Go.Proofs.Ytieegaojcjhfdaa

/-
  A range over a function whose iterator keeps state of its own: who may write which blocks.
  O: the blocks that the iterator writes (it made them since its call began). R: blocks that it only reads.
  An iterator's step leaves all other blocks alone; a round leaves the blocks of R and O alone.
-/
namespace Go.Proofs.Ytieegaojcjhfdaa
open Go.RowKit Go.Shelf
set_option linter.unusedVariables false
set_option linter.unusedSimpArgs false

abbrev BSet := Nat → Prop

/-- An iterator's step. -/
structure ItStep (O : BSet) (W : World) (O' : BSet) (W' : World) : Prop where
  os : W'.os = W.os
  tape : W'.tape = W.tape
  output : W'.output = W.output
  size : W.heap.size ≤ W'.heap.size
  sub : ∀ k, O k → O' k
  new : ∀ k, O' k → O k ∨ W.heap.size ≤ k
  top : ∀ k, O' k → O k ∨ k < W'.heap.size
  block : ∀ k, k < W.heap.size → ¬ O k → W'.heap[k]? = W.heap[k]?

/-- A round. -/
structure RdStep (M : BSet) (W W' : World) : Prop where
  os : W'.os = W.os
  tape : W'.tape = W.tape
  output : W'.output = W.output
  size : W.heap.size ≤ W'.heap.size
  block : ∀ k, k < W.heap.size → M k → W'.heap[k]? = W.heap[k]?

theorem ItStep.refl (O : BSet) (W : World) : ItStep O W O W := ⟨rfl, rfl, rfl, Nat.le_refl _, fun _ h => h, fun _ h => .inl h, fun _ h => .inl h, fun _ _ _ => rfl⟩
theorem ItStep.trans {O O' O'' : BSet} {A B C : World} (h : ItStep O A O' B) (k : ItStep O' B O'' C) : ItStep O A O'' C := by
  refine ⟨k.os.trans h.os, k.tape.trans h.tape, k.output.trans h.output, Nat.le_trans h.size k.size, fun j hj => k.sub j (h.sub j hj), ?_, ?_, ?_⟩
  · intro j hj
    rcases k.new j hj with h1 | h1
    · exact h.new j h1
    · exact .inr (Nat.le_trans h.size h1)
  · intro j hj
    rcases k.top j hj with h1 | h1
    · rcases h.top j h1 with h2 | h2
      · exact .inl h2
      · exact .inr (Nat.lt_of_lt_of_le h2 k.size)
    · exact .inr h1
  · intro j hlt hn
    have hn' : ¬ O' j := by
      intro hj
      rcases h.new j hj with h1 | h1
      · exact hn h1
      · omega
    exact (k.block j (Nat.lt_of_lt_of_le hlt h.size) hn').trans (h.block j hlt hn)
theorem ItStep.of_below {O : BSet} {A B : World} (h : Below A.heap.size A B) : ItStep O A O B := ⟨h.os, h.tape, h.output, h.size, fun _ h => h, fun _ h => .inl h, fun _ h => .inl h, fun k hk _ => h.block k hk⟩
theorem ItStep.grow {O O' : BSet} {A : World} (h1 : ∀ k, O k → O' k) (h2 : ∀ k, O' k → O k ∨ A.heap.size ≤ k) (h3 : ∀ k, O' k → O k ∨ k < A.heap.size) : ItStep O A O' A := ⟨rfl, rfl, rfl, Nat.le_refl _, h1, h2, h3, fun _ _ _ => rfl⟩
theorem ItStep.setCell {O : BSet} (W : World) (p : Addr) (v : Value) (h : O p.block) : ItStep O W O (W.setCell p v) := by
  refine ⟨rfl, rfl, rfl, (KeepsOthers.setCell W p v).size, fun _ h => h, fun _ h => .inl h, fun _ h => .inl h, fun k hk hn => ?_⟩
  exact Below.heap_setCell W p v k (fun e => hn (by rw [e]; exact h))
theorem ItStep.putObj {O : BSet} (W : World) (l : Nat) (o : Obj) (h : O l) : ItStep O W O (W.putObj l o) :=
  ⟨rfl, rfl, rfl, by simp, fun _ h => h, fun _ h => .inl h, fun _ h => .inl h, fun k hk hn => World.putObj_heap_other (fun e => hn (by rw [e]; exact h))⟩

theorem RdStep.refl (M : BSet) (W : World) : RdStep M W W := ⟨rfl, rfl, rfl, Nat.le_refl _, fun _ _ _ => rfl⟩
theorem RdStep.trans {M : BSet} {A B C : World} (h : RdStep M A B) (k : RdStep M B C) : RdStep M A C :=
  ⟨k.os.trans h.os, k.tape.trans h.tape, k.output.trans h.output, Nat.le_trans h.size k.size, fun j hlt hj => (k.block j (Nat.lt_of_lt_of_le hlt h.size) hj).trans (h.block j hlt hj)⟩
theorem RdStep.mono {M M' : BSet} {A B : World} (h : RdStep M A B) (hs : ∀ k, M' k → M k) : RdStep M' A B := ⟨h.os, h.tape, h.output, h.size, fun j hlt hj => h.block j hlt (hs j hj)⟩
theorem RdStep.of_below {M : BSet} {A B : World} (h : Below A.heap.size A B) : RdStep M A B := ⟨h.os, h.tape, h.output, h.size, fun k hk _ => h.block k hk⟩
theorem RdStep.setCell {M : BSet} (W : World) (p : Addr) (v : Value) (h : ¬ M p.block) : RdStep M W (W.setCell p v) := by
  refine ⟨rfl, rfl, rfl, (KeepsOthers.setCell W p v).size, fun k hk hm => ?_⟩
  exact Below.heap_setCell W p v k (fun e => h (by rw [← e]; exact hm))
theorem RdStep.putObj {M : BSet} (W : World) (l : Nat) (o : Obj) (h : ¬ M l) : RdStep M W (W.putObj l o) :=
  ⟨rfl, rfl, rfl, by simp, fun k hk hm => World.putObj_heap_other (fun e => h (by rw [← e]; exact hm))⟩
theorem RdStep.cell {M : BSet} {A B : World} (h : RdStep M A B) {p : Addr} {v : Value} (hc : A.cell? p = some v) (hm : M p.block) : B.cell? p = some v :=
  (World.cell?_of_block (h.block p.block (World.block_lt_of_cell? A _ hc) hm)).trans hc
theorem ItStep.cell {O O' : BSet} {A B : World} (h : ItStep O A O' B) {p : Addr} {v : Value} (hc : A.cell? p = some v) (hm : ¬ O p.block) : B.cell? p = some v :=
  (World.cell?_of_block (h.block p.block (World.block_lt_of_cell? A _ hc) hm)).trans hc

/-- What an iterator's step leaves true. -/
def Stable (J : BSet → World → Prop) : Prop := ∀ O W O' W', J O W → ItStep O W O' W' → J O' W'

/-- A block that is not the iterator's stays so. -/
theorem not_own {O O' : BSet} {A B : World} (h : ItStep O A O' B) {k : Nat} (hk : k < A.heap.size) (hn : ¬ O k) : ¬ O' k := fun hj => by
  rcases h.new k hj with h1 | h1
  · exact hn h1
  · omega

/-- The contract of an iterator's value: it hands the items xs to yield, in order, until a round says 'no more'. -/
def IterOf (P : Program) (gf : FuncId) (lb : Array Value) (R : BSet) (C : World → Prop) {α β : Type} (xs : List α) (encs : α → β → Array Value) (Enc : α → β → BSet → World → Prop) : Prop :=
  ∀ (l : Nat) (J Jx : List α → BSet → World → Prop), (∀ p, Stable (J p)) → (∀ p, Stable (Jx p)) →
    (∀ pre x y rest O W, xs = pre ++ x :: rest → J pre O W → Enc x y O W →
      YieldAt Fence.wide 0 P l (encs x y) W fun e W' => RdStep (fun k => R k ∨ O k) W W' ∧ ((e = .returned (.bool true) ∧ J (pre ++ [x]) O W') ∨ (e = .returned (.bool false) ∧ Jx (pre ++ [x]) O W'))) →
    ∀ W, C W → J [] (fun _ => False) W →
    Calls P gf (#[.func (.yield l) #[] #[]] ++ lb) W fun e W' => (∃ v, e = .returned v) ∧ ((∃ O, J xs O W') ∨ (∃ pre O, Jx pre O W'))

theorem yield_any {m : Nat} (m' : Nat) {P : Program} {l : Nat} {args : Array Value} {W : World} {R : Ending → World → Prop} (h : YieldAt Fence.wide m P l args W R) : YieldAt Fence.wide m' P l args W R := by
  obtain ⟨fn, tmps, assign, body, hy, h1, h2⟩ := h
  exact ⟨fn, tmps, assign, body, hy, h1, fun c cs _ => h2 c cs (room_wide _)⟩

/-- How a round may be left. -/
def rdPost {α : Type} (M O : BSet) (I : List α → BSet → World → Prop) (Ix : Code → List α → BSet → World → Prop) (p : List α) (W : World) : Exit → Act → World → Prop
  | .normal, _, W' => RdStep M W W' ∧ I p O W'
  | .ret, _, W' => RdStep M W W' ∧ Ix .ret p O W'
  | .exit id, _, W' => RdStep M W W' ∧ Ix (.exit id) p O W'
  | .goto t, _, W' => RdStep M W W' ∧ Ix (.goto t) p O W'
  | .panic _, _, _ => False
  | .outgrown, _, _ => False

/-- The statement 'for .. := range g { .. }' by the iterator's contract. -/
theorem range_law {P : Program} {n : Nat} {g : Operand} {ps : Array Tmp} {assign body : Code} {Q : Exit → Act → World → Prop} {a : Act} {w : World} {gf : FuncId} {lb : Array Value} {R : BSet} {C : World → Prop}
    {α β : Type} {xs : List α} {encs : α → β → Array Value} {Enc : α → β → BSet → World → Prop}
    (hg : a.eval g = .func (.func gf) #[] lb) (eg : ∀ args w, (callFunc gf args).run P w = .ok (.enter gf args) w)
    (hseq : IterOf P gf lb R C xs encs Enc) (hps : ∀ x y, (encs x y).size = ps.size) (hR : ∀ k, R k → k < w.heap.size)
    (hkeep : ∀ x y O W D l o o', Enc x y O W → W.heap[l]? = some o → o.isCells = false → Enc x y (fun k => O k ∨ k = D ∨ k = l) (W.putObj l o'))
    (hC : ∀ W', Below w.heap.size w W' → C W')
    (I : List α → BSet → World → Prop) (Ix : Code → List α → BSet → World → Prop) (sI : ∀ p, Stable (I p)) (sIx : ∀ c p, Stable (Ix c p)) (h0 : I [] (fun _ => False) w)
    (hround : ∀ (l : Nat) (pre : List α) (x : α) (y : β) (rest : List α) (O : BSet) (W W2 : World), xs = pre ++ x :: rest → I pre O W2 → Enc x y O W2 →
      assign.wpIn (Fence.wide.inRound l) 0 P (Exit.then (fun a' W' => W' = W ∧ body.wpIn (Fence.wide.inRound l) 0 P (rdPost (fun k => R k ∨ O k) O I Ix (pre ++ [x]) W2) a' W2) (fun _ _ _ => False))
        { tmps := (ps.zip (encs x y)).foldl (fun t (p, v) => t.setIfInBounds p v) a.tmps, defers := [] } W)
    (hdone : ∀ (D : Nat) (O : BSet) (W : World), w.heap.size ≤ D → O D → W.heap[D]? = some (.deferred (some [])) → I xs O W → Q .normal { a with defers := { target := .collected D, args := #[] } :: a.defers } W)
    (hstop : ∀ (D : Nat) (O : BSet) (c : Code) (pre : List α) (W : World), w.heap.size ≤ D → O D → W.heap[D]? = some (.deferred (some [])) → Ix c pre O W → c.wpIn Fence.wide n P Q { a with defers := { target := .collected D, args := #[] } :: a.defers } W) :
    (Code.rangeFunc g ps assign body).wpIn Fence.wide n P Q a w := by
  refine wpIn_rangeFunc ?_
  intro fn hfn
  obtain ⟨rec, hrec⟩ : ∃ rec : LoopState → Option Code → Loop, rec = fun st pe => { state := st, pending := pe, fn, tmps := a.tmps, params := ps, assign, body, defers := w.heap.size } := ⟨_, rfl⟩
  obtain ⟨W1, hW1⟩ : ∃ W1, (w.alloc (.deferred (some []))).alloc (.loop (rec .ready none)) = W1 := ⟨_, rfl⟩
  obtain ⟨D, hD⟩ : ∃ D, w.heap.size = D := ⟨_, rfl⟩
  obtain ⟨l, hl⟩ : ∃ l, D + 1 = l := ⟨_, rfl⟩
  have hb1 : Below w.heap.size w W1 := by rw [← hW1]; exact ((Below.refl _ w).alloc (Nat.le_refl _) _).alloc (by simp) _
  have hL1 : W1.heap[l]? = some (.loop (rec .ready none)) := by
    rw [← hW1, ← hl, ← hD]
    have := World.alloc_heap_new (w.alloc (.deferred (some []))) (.loop (rec .ready none))
    rwa [World.size_alloc] at this
  have hK1 : W1.heap[D]? = some (.deferred (some [])) := by rw [← hW1, ← hD]; exact (Below.heap_alloc _ _ _ (by simp)).trans (World.alloc_heap_new w _)
  -- the caller's set: the iterator's blocks and the two of the loop itself
  have hI1 : I [] (fun k => False ∨ k = D ∨ k = l) W1 :=
    sI [] _ w _ W1 h0 ⟨hb1.os, hb1.tape, hb1.output, hb1.size, fun _ h => .inl h, fun k hk => by rcases hk with h | h | h; exact h.elim; exact .inr (by omega); exact .inr (by omega),
      fun k hk => by rcases hk with h | h | h; exact h.elim; all_goals exact .inr (by rw [← hW1, h]; simp; omega), fun k hk _ => hb1.block k hk⟩
  have wide : ∀ {O O' : BSet} {A B : World}, ItStep O A O' B → ItStep (fun k => O k ∨ k = D ∨ k = l) A (fun k => O' k ∨ k = D ∨ k = l) B := fun {O O' A B} h =>
    ⟨h.os, h.tape, h.output, h.size, fun k hk => hk.elim (fun h1 => .inl (h.sub k h1)) .inr, fun k hk => by
      rcases hk with h1 | h1
      · rcases h.new k h1 with h2 | h2
        · exact .inl (.inl h2)
        · exact .inr h2
      · exact .inl (.inr h1), fun k hk => by
      rcases hk with h1 | h1
      · rcases h.top k h1 with h2 | h2
        · exact .inl (.inl h2)
        · exact .inr h2
      · exact .inl (.inr h1), fun k hk hn => h.block k hk (fun h1 => hn (.inl h1))⟩
  have kept : ∀ {O O' : BSet} {A B : World} {k : Nat} {o : Obj}, ItStep O A O' B → ¬ O k → A.heap[k]? = some o → (¬ O' k ∧ B.heap[k]? = some o) := fun {O O' A B k o} h hn hk =>
    ⟨not_own h (Array.getElem?_eq_some_iff.1 hk).1 hn, (h.block k (Array.getElem?_eq_some_iff.1 hk).1 hn).trans hk⟩
  refine ⟨l, [{ target := .collected D, args := #[] }], W1, { target := .fn (.func gf) lb, args := #[.func (.yield l) #[] #[]] }, W1, gf, #[.func (.yield l) #[] #[]] ++ lb, W1, ?_, ?_, fun _ _ => trivial, ?_, fun h => (by simp [Fence.wide] at h), ?_⟩
  · rw [← hW1, hrec, ← hl, ← hD]; exact run_enterLoop_outer _ _ _ _ _
  · simp only [resolve, hg]
    simp [go_sem]
  · simp [invoke, go_sem, eg]
  · refine callsIn_wide.2 ((hseq l
      (fun pre O W => I pre (fun k => O k ∨ k = D ∨ k = l) W ∧ W.heap[l]? = some (.loop (rec .ready none)) ∧ W.heap[D]? = some (.deferred (some [])) ∧ ¬ O l ∧ ¬ O D)
      (fun pre O W => ∃ c, Ix c pre (fun k => O k ∨ k = D ∨ k = l) W ∧ W.heap[l]? = some (.loop (rec .done (some c))) ∧ W.heap[D]? = some (.deferred (some [])) ∧ ¬ O l ∧ ¬ O D)
      (fun p O A O' B ⟨h1, h2, h3, h4, h5⟩ hs => ⟨sI p _ _ _ _ h1 (wide hs), (kept hs h4 h2).2, (kept hs h5 h3).2, (kept hs h4 h2).1, (kept hs h5 h3).1⟩)
      (fun p O A O' B ⟨c, h1, h2, h3, h4, h5⟩ hs => ⟨c, sIx c p _ _ _ _ h1 (wide hs), (kept hs h4 h2).2, (kept hs h5 h3).2, (kept hs h4 h2).1, (kept hs h5 h3).1⟩)
      ?_ W1 (hC W1 hb1) ⟨hI1, hL1, hK1, fun h => h, fun h => h⟩).mono ?_)
    · -- one round
      rintro pre x y rest O W hxs ⟨hi, hrl, hrD, hnl, hnD⟩ he
      have hne : D ≠ l := by omega
      have hlt : l < W.heap.size := (Array.getElem?_eq_some_iff.1 hrl).1
      have hy := run_yield (P := P) (args := encs x y) hrl (by rw [hrec]; exact hps x y)
      rw [hrec] at hy
      refine ⟨fn, _, assign, body, hy, roundIn_of_wpIn hfn ?_⟩
      have hRl : ¬ R l := fun h => by have := hR l h; omega
      have hRD : ¬ R D := fun h => by have := hR D h; omega
      have hl2 : (W.putObj l (.loop { rec .ready none with state := .busy })).heap[l]? = some (.loop { rec .ready none with state := .busy }) := World.putObj_heap_same hlt
      have hk2 : (W.putObj l (.loop { rec .ready none with state := .busy })).heap[D]? = some (.deferred (some [])) := (World.putObj_heap_other hne).trans hrD
      have st2 : ItStep (fun k => O k ∨ k = D ∨ k = l) W (fun k => O k ∨ k = D ∨ k = l) (W.putObj l (.loop { rec .ready none with state := .busy })) := ItStep.putObj W l _ (.inr (.inr rfl))
      refine wpIn_mono (hround l pre x y rest _ W _ hxs (sI _ _ _ _ _ hi st2) (hkeep x y O W D l _ _ he hrl rfl)) ?_
      intro ea aa Wa hea
      cases ea with
      | normal => ?_
      | ret => exact hea
      | exit id => exact hea
      | goto t => exact hea
      | panic ch => exact hea
      | outgrown => exact hea
      obtain ⟨hWa, hbd⟩ := hea
      rw [hWa]
      refine ⟨_, run_beginRound hrl (by rw [hrec]), ?_⟩
      refine wpIn_mono hbd ?_
      have rd2 : RdStep (fun k => R k ∨ O k) W (W.putObj l (.loop { rec .ready none with state := .busy })) := RdStep.putObj W l _ (fun h => h.elim hRl hnl)
      have fin : ∀ (jump : Option Code) (W3 : World), RdStep (fun k => R k ∨ O k ∨ k = D ∨ k = l) (W.putObj l (.loop { rec .ready none with state := .busy })) W3 →
          (Instr.endRound l jump).run P W3 = .ok (.bool jump.isNone) (W3.putObj l (.loop (rec (if jump.isNone then .ready else .done) jump))) ∧
          (W3.putObj l (.loop (rec (if jump.isNone then .ready else .done) jump))).heap[l]? = some (.loop (rec (if jump.isNone then .ready else .done) jump)) ∧
          (W3.putObj l (.loop (rec (if jump.isNone then .ready else .done) jump))).heap[D]? = some (.deferred (some [])) ∧
          ItStep (fun k => O k ∨ k = D ∨ k = l) W3 (fun k => O k ∨ k = D ∨ k = l) (W3.putObj l (.loop (rec (if jump.isNone then .ready else .done) jump))) ∧
          RdStep (fun k => R k ∨ O k) W (W3.putObj l (.loop (rec (if jump.isNone then .ready else .done) jump))) := fun jump W3 hk3 => by
        have hl3 : W3.heap[l]? = _ := (hk3.block l (Array.getElem?_eq_some_iff.1 hl2).1 (.inr (.inr (.inr rfl)))).trans hl2
        have hD3 : W3.heap[D]? = _ := (hk3.block D (Array.getElem?_eq_some_iff.1 hk2).1 (.inr (.inr (.inl rfl)))).trans hk2
        have hr := run_endRound (P := P) jump hl3
        rw [hrec] at hr ⊢
        refine ⟨hr, World.putObj_heap_same (Array.getElem?_eq_some_iff.1 hl3).1, (World.putObj_heap_other hne).trans hD3, ItStep.putObj W3 l _ (.inr (.inr rfl)), ?_⟩
        rw [hrec] at rd2 hk3
        exact (rd2.trans (hk3.mono (fun k hk => hk.elim .inl (fun h => .inr (.inl h))))).trans (RdStep.putObj W3 l _ (fun h => h.elim hRl hnl))
      rintro e a3 W3 hp
      cases e with
      | normal =>
        obtain ⟨hk3, hi3⟩ := hp
        obtain ⟨hr, hl4, hk4, st, rd⟩ := fin none W3 hk3
        exact ⟨_, _, hr, rd, .inl ⟨rfl, sI _ _ _ _ _ hi3 st, hl4, hk4, hnl, hnD⟩⟩
      | ret =>
        obtain ⟨hk3, hi3⟩ := hp
        obtain ⟨hr, hl4, hk4, st, rd⟩ := fin (some .ret) W3 hk3
        exact ⟨_, _, hr, rd, .inr ⟨rfl, .ret, sIx _ _ _ _ _ _ hi3 st, hl4, hk4, hnl, hnD⟩⟩
      | exit id =>
        obtain ⟨hk3, hi3⟩ := hp
        obtain ⟨hr, hl4, hk4, st, rd⟩ := fin (some (.exit id)) W3 hk3
        exact ⟨_, _, hr, rd, .inr ⟨rfl, .exit id, sIx _ _ _ _ _ _ hi3 st, hl4, hk4, hnl, hnD⟩⟩
      | goto t =>
        obtain ⟨hk3, hi3⟩ := hp
        obtain ⟨hr, hl4, hk4, st, rd⟩ := fin (some (.goto t)) W3 hk3
        exact ⟨_, _, hr, rd, .inr ⟨rfl, .goto t, sIx _ _ _ _ _ _ hi3 st, hl4, hk4, hnl, hnD⟩⟩
      | panic ch => exact hp.elim
      | outgrown => exact hp.elim
    · -- behind the iterator
      have hne : D ≠ l := by omega
      rintro e W2 ⟨⟨v, rfl⟩, (⟨O, hi, hl2, hk, hnl, hnD⟩ | ⟨pre, O, c, hi, hl2, hk, hnl, hnD⟩)⟩
      · exact ⟨none, _, by have := run_endLoop (P := P) hl2 (by rw [hrec]; simp); rw [hrec] at this; exact this,
          hdone D _ _ (by omega) (.inr (.inl rfl)) ((World.putObj_heap_other hne).trans hk) (sI _ _ _ _ _ hi (ItStep.putObj W2 l _ (.inr (.inr rfl))))⟩
      · exact ⟨some c, _, by have := run_endLoop (P := P) hl2 (by rw [hrec]; simp); rw [hrec] at this; exact this,
          hstop D _ c pre _ (by omega) (.inr (.inl rfl)) ((World.putObj_heap_other hne).trans hk) (sIx _ _ _ _ _ _ hi (ItStep.putObj W2 l _ (.inr (.inr rfl))))⟩

/-- A piece of code that ends in one way: cut there. -/
theorem region_cut {F : Fence} {n : Nat} {P : Program} {c : Code} {Q : Exit → Act → World → Prop} {K : Act → World → Prop} {a : Act} {w : World} (f : Act → Act) (w₀ : World)
    (h : c.wpIn F n P (fun e a' w' => e = .normal ∧ a' = f a ∧ w' = w₀) a w) (hk : K (f a) w₀) : c.wpIn F n P (Exit.then K Q) a w :=
  wpIn_mono h (by rintro e a' w' ⟨rfl, rfl, rfl⟩; exact hk)

/-- The same where a call's result stays open. -/
def CutP {ι : Type} (H : ι → Prop) (f : ι → Act → Act) (w₀ : ι → World) (a : Act) (e : Exit) (a' : Act) (w' : World) : Prop := ∃ x, H x ∧ e = .normal ∧ a' = f x a ∧ w' = w₀ x
theorem region_cut2 {F : Fence} {n : Nat} {P : Program} {c : Code} {Q : Exit → Act → World → Prop} {K : Act → World → Prop} {a : Act} {w : World} {ι : Type} (H : ι → Prop) (f : ι → Act → Act) (w₀ : ι → World)
    (h : c.wpIn F n P (CutP H f w₀ a) a w) (hk : ∀ x, H x → K (f x a) (w₀ x)) : c.wpIn F n P (Exit.then K Q) a w :=
  wpIn_mono h (by rintro e a' w' ⟨x, hx, rfl, rfl, rfl⟩; exact hk x hx)
/-- The builtin append as a step of a region, by its run. -/
theorem step_append_run {F : Fence} {n : Nat} {P : Program} {ops : Array Oper} {o : Oper} {a : Act} {w : World} {K : Act → World → Prop} {Q : Exit → Act → World → Prop} {E : Prop} (hg : o.guard = none) (s x : Operand) (t : TypeId)
    (ho : o.op = .call { callee := .builtin .append, args := #[s, x], argTypes := #[t, t] }) (sv xv : Value) (hs : a.eval s = sv) (hx : a.eval x = xv) (v : Value) (w' : World)
    (hrun : (Builtin.append_ #[t, t] o.type #[sv, xv]).run P w = .ok v w') (hK : K (a.put o.dst v) w') : if Region.wanted o (yielded ops a.tmps) = true then Oper.wpIn F n P o a w K Q else E := by
  have hw : Region.wanted o (yielded ops a.tmps) = true := by simp [Region.wanted, hg]
  rw [if_pos hw]
  unfold Oper.wpIn
  refine ⟨?_, ?_⟩
  · simp [Oper.about, ho, resolve, Target.leads, Sem.run_pure]
  · rw [Oper.semAt_plain F _ _ (by rw [ho]; intro c hc'; cases hc')]
    simp [execOp, ho, resolve, invoke, builtin, hs, hx, hrun, Result.andThen]
    exact hK

/-- A function returns behind such a loop: the block for the rounds' deferred calls is shut. -/
theorem leaves_mark {P : Program} {n : Nat} {fn : Func} {tmps : Array Value} {Q : Ending → World → Prop} {D : Nat} {W : World} (hD : W.heap[D]? = some (.deferred (some [])))
    (h : LeavesInM Fence.wide n P fn tmps Q [] .returning (W.putObj D (.deferred none))) : LeavesInM Fence.wide n P fn tmps Q [{ target := .collected D, args := #[] }] .returning W :=
  ⟨by simp, .inl ⟨_, _, rfl, run_takeDeferred hD, h⟩⟩
end Go.Proofs.Ytieegaojcjhfdaa

/-
  Blocks that stay whole through an iterator's steps.
-/
namespace Go.Proofs.Ytieegaojcjhfdaa
open Go.RowKit
set_option linter.unusedVariables false
set_option linter.unusedSimpArgs false

/-- Block k is not the iterator's and holds these cells. -/
def Has (O : BSet) (W : World) (k : Nat) (cur : Array Value) (t : TypeId) : Prop := ¬ O k ∧ W.heap[k]? = some (.cells cur t (0, 0))
theorem Has.lt {O : BSet} {W : World} {k : Nat} {cur : Array Value} {t : TypeId} (h : Has O W k cur t) : k < W.heap.size := (Array.getElem?_eq_some_iff.1 h.2).1
theorem Has.stable {O O' : BSet} {W W' : World} {k : Nat} {cur : Array Value} {t : TypeId} (h : Has O W k cur t) (hs : ItStep O W O' W') : Has O' W' k cur t :=
  ⟨not_own hs h.lt h.1, (hs.block k h.lt h.1).trans h.2⟩
theorem Has.cell {O : BSet} {W : World} {k : Nat} {cur : Array Value} {t : TypeId} (h : Has O W k cur t) (j : Nat) : W.cell? ⟨k, j, none⟩ = cur[j]? := by
  rw [cell_of_row W k j cur t (0, 0) h.2]
theorem Has.frozen {O : BSet} {W : World} {k : Nat} {cur : Array Value} {t : TypeId} (h : Has O W k cur t) (j : Nat) : W.frozen? ⟨k, j, none⟩ = false := frozen_of_row W k j cur t h.2
theorem Has.set {O : BSet} {W : World} {k : Nat} {cur : Array Value} {t : TypeId} (h : Has O W k cur t) (j : Nat) (v : Value) : Has O (W.setCell ⟨k, j, none⟩ v) k (cur.setIfInBounds j v) t :=
  ⟨h.1, heap_setCell_same W k j cur t v h.2⟩
theorem Has.other {O : BSet} {W : World} {k : Nat} {cur : Array Value} {t : TypeId} (h : Has O W k cur t) {p : Addr} (v : Value) (hp : k ≠ p.block) : Has O (W.setCell p v) k cur t :=
  ⟨h.1, (Below.heap_setCell W p v k hp).trans h.2⟩
theorem Has.below {O : BSet} {W W' : World} {k : Nat} {cur : Array Value} {t : TypeId} (h : Has O W k cur t) (hb : Below W.heap.size W W') : Has O W' k cur t := h.stable (ItStep.of_below hb)
theorem Has.drew {O : BSet} {W : World} {k : Nat} {cur : Array Value} {t : TypeId} (h : Has O W k cur t) : Has O W.drew k cur t := h
theorem Has.made {O : BSet} (W : World) (cur : Array Value) (t : TypeId) (h : ¬ O W.heap.size) : Has O (W.alloc (.cells cur t)) W.heap.size cur t := ⟨h, World.alloc_heap_new W _⟩

/-- All that was there at the start is as it was; the iterator's blocks are new. -/
def Base (w : World) (O : BSet) (W : World) : Prop := Below w.heap.size w W ∧ ∀ k, O k → w.heap.size ≤ k
theorem Base.stable {w : World} {O O' : BSet} {W W' : World} (h : Base w O W) (hs : ItStep O W O' W') : Base w O' W' := by
  refine ⟨⟨hs.os.trans h.1.os, hs.tape.trans h.1.tape, hs.output.trans h.1.output, Nat.le_trans h.1.size hs.size, fun k hk => ?_⟩, fun k hk => ?_⟩
  · exact (hs.block k (Nat.lt_of_lt_of_le hk h.1.size) (fun ho => by have := h.2 k ho; omega)).trans (h.1.block k hk)
  · rcases hs.new k hk with h1 | h1
    · exact h.2 k h1
    · exact Nat.le_trans h.1.size h1
theorem Base.trans {w : World} {O : BSet} {W W' : World} (h : Base w O W) (hb : Below w.heap.size W W') : Base w O W' := ⟨h.1.trans hb, h.2⟩
theorem RdStep.drew (M : BSet) (W : World) : RdStep M W W.drew := RdStep.of_below (Below.refl _ _).drew
theorem below_putObj {B : Nat} {w W : World} (h : Below B w W) (D : Nat) (o : Obj) (hD : B ≤ D) : Below B w (W.putObj D o) :=
  ⟨h.os, h.tape, h.output, Nat.le_trans h.size (by simp), fun k hk => (World.putObj_heap_other (by omega)).trans (h.block k hk)⟩
theorem Has.putObj {O : BSet} {W : World} {k : Nat} {cur : Array Value} {t : TypeId} (h : Has O W k cur t) (D : Nat) (o : Obj) (hD : O D) : Has O (W.putObj D o) k cur t := h.stable (ItStep.putObj W D o hD)
/-- A whole block is a row of its own. -/
theorem Has.row {O : BSet} {W : World} {k : Nat} {zs : List Int} {t : TypeId} (h : Has O W k (zs.map (Value.int .i64)).toArray t) {B n : Nat} (hB : B ≤ k) (hn : zs.length = n) (hm : n ≤ maxLen) :
    W.ownsRow B t 1 (.slice (some ⟨k, 0, none⟩) n n) n (zs.map (Value.int .i64)) :=
  ⟨by simp [hn], .inr ⟨k, n, _, rfl, hB, h.2, Nat.le_refl _, hm, by simp [hn], by rw [List.take_of_length_le (by simp [hn])]⟩⟩
end Go.Proofs.Ytieegaojcjhfdaa

/-
  slices.Chunk over a slice of numbers: the contract of its closure, where the length is a multiple.
-/
namespace Go.Proofs.Ytieegaojcjhfdaa
open Go.RowKit Go.Shelf
attribute [local go_sem] Oper.semAt_some
set_option linter.unusedVariables false
set_option linter.unusedSimpArgs false

/-- The r numbers from j on. -/
def upL : Nat → Nat → List Nat
  | _, 0 => []
  | j, r + 1 => j :: upL (j + 1) r

set_option maxHeartbeats 400000 in
theorem chunk_any (a : Option Addr) (len cap n : Nat) (hn : 1 ≤ n) (w : World) :
    Calls Try.prog 43 #[.slice a len cap, .int .i64 n] w fun e w' => e = .returned (.func (.func 50) #[] #[.pointer (some ⟨w.heap.size, 0, none⟩), .pointer (some ⟨w.heap.size + 1, 0, none⟩)]) ∧ (w.alloc (.cells #[.slice a len cap] 27)).alloc (.cells #[.int .i64 n] 3) = w' := by
  have hmf : ∀ (fn : Fn) (first cap : Array Value) (w : World), (Instr.makeFunc fn first cap).run Try.prog w = .ok (.func fn first cap) w := fun _ _ _ _ => rfl
  have hn1 : ¬ (n : Int) < 1 := by omega
  have hn2 : decide ((n : Int) < 1) = false := decide_eq_false hn1
  go_enter Try.func43, Try.ntmps43
  go_wp2_with fail
  go_ret
  exact ⟨rfl, rfl⟩

/-- The closure's boxes hold the slice and the step. -/
def ChunkC (Bs Bn b off L cap n : Nat) (W : World) : Prop := W.cell? ⟨Bs, 0, none⟩ = some (.slice (some ⟨b, off, none⟩) L cap) ∧ W.cell? ⟨Bn, 0, none⟩ = some (.int .i64 n)
def ChunkR (Bs Bn : Nat) : BSet := fun k => k = Bs ∨ k = Bn
theorem ChunkC.round {Bs Bn b off L cap n : Nat} {O : BSet} {W W' : World} (h : ChunkC Bs Bn b off L cap n W) (hs : RdStep (fun k => ChunkR Bs Bn k ∨ O k) W W') : ChunkC Bs Bn b off L cap n W' :=
  ⟨hs.cell h.1 (.inl (.inl rfl)), hs.cell h.2 (.inl (.inr rfl))⟩
theorem chunk_boxes (w : World) (b off cl cc n : Nat) : ChunkC w.heap.size (w.heap.size + 1) b off cl cc n ((w.alloc (.cells #[.slice (some ⟨b, off, none⟩) cl cc] 27)).alloc (.cells #[.int .i64 n] 3)) := by
  refine ⟨?_, ?_⟩
  · refine cell_later ((Below.refl _ _).alloc (Nat.le_refl _) _) ?_
    rw [World.cell?_alloc_at _ _ _ _ rfl]; rfl
  · rw [World.cell?_alloc_at _ _ _ _ (by simp)]; rfl
/-- The j-th piece. -/
def pieceV (b off n : Nat) (j : Nat) : Value := .slice (some ⟨b, off + j * n, none⟩) n n

set_option maxRecDepth 100000 in
set_option maxHeartbeats 2000000 in
theorem chunk_iter (Bs Bn b off cap n M L : Nat) (hn : 1 ≤ n) (hL : L = M * n) (hc1 : L ≤ cap) (hc2 : cap ≤ 9223372036854775807) (hL6 : L ≤ 1000000) :
    IterOf Try.prog 50 #[.pointer (some ⟨Bs, 0, none⟩), .pointer (some ⟨Bn, 0, none⟩)] (ChunkR Bs Bn) (ChunkC Bs Bn b off L cap n) (upL 0 M) (fun (j : Nat) (_ : Unit) => #[pieceV b off n j]) (fun _ _ _ _ => True) := by
  intro l J Jx sJ sJx hY0 W hC h0
  have hY := Lib.hid hY0
  clear hY0
  have HL := Lib.hid hL
  clear hL
  refine (callsIn_wide (n := 0)).1 ?_
  refine callsIn_of_wp Try.func50 rfl trivial ?_ rfl
  simp only [Try.ntmps50, List.size_toArray, List.length_cons, List.length_nil, Nat.reduceAdd, Nat.reduceSub, Array.replicate_succ, Array.replicate_zero, List.push_toArray, List.append_toArray, List.nil_append, List.cons_append]
  gi_wp2
  gi_loopw [4] (fun i wr => ∃ (r j p : Nat) (pre : List Nat), i = .int .i64 p ∧ p + r * n = L ∧ Hid (p = j * n) ∧ Hid (upL 0 M = pre ++ upL j r) ∧ J pre (fun _ => False) wr ∧ ChunkC Bs Bn b off L cap n wr)
    (fun i _ => L - (intOf i).toNat)
  case atStart => exact ⟨M, 0, 0, [], rfl, by rw [HL.out]; omega, Lib.hid (by omega), Lib.hid rfl, h0, hC⟩
  case round =>
    obtain ⟨r, j, p, pre, rfl, hp, hpj, hx, hj, hc⟩ := hrel
    obtain ⟨c1, c2⟩ := hc
    cases r with
    | zero =>
      have e : upL 0 M = pre := by rw [hx.out]; simp [upL]
      rw [← e] at hj
      have hpL : ¬ (p : Int) < (L : Int) := by omega
      clear e hY hx
      gi_wp2
      go_end0
      exact ⟨⟨_, rfl⟩, .inl ⟨_, hj⟩⟩
    | succ r =>
      have hpn : p + n ≤ L := by
        rw [Nat.succ_mul] at hp
        have : 0 ≤ r * n := Nat.zero_le _
        omega
      have hp2 : (p + n) + r * n = L := by rw [Nat.succ_mul] at hp; omega
      have hlt : (p : Int) < (L : Int) := by omega
      have HP := Lib.hid hp2
      clear hp hp2
      gi_wp2_with fail
      have hmin : min (n : Int) ((L - p : Nat) : Int) = n := by omega
      have hmin2 : min (n : Int) ((L : Int) - p) = n := by omega
      refine region_cut2 (ι := Nat) (fun _ => True) (fun _ a => ((((((a.put (some 13) (.int .i64 n)).put (some 14) (.slice (some ⟨b, off, none⟩) L cap)).put (some 15) (.int .i64 p)).put (some 16) (.slice (some ⟨b, off + p, none⟩) (L - p) (cap - p))).put (some 17) (.int .i64 (L - p : Nat))).put (some 18) (.int .i64 n)).put (some 5) (.int .i64 n))
        (fun q => wr.drewN q) ?_ ?_
      · refine wpIn_wide.2 ?_
        go_quiet (fail)
        exact ⟨nq, trivial, rfl, rfl, rfl⟩
      intro q htriv
      clear htriv
      have bq : Below wr.heap.size wr (wr.drewN q) := below_drewN' (Below.refl _ _) q
      obtain ⟨W2, hW2⟩ : ∃ W2, wr.drewN q = W2 := ⟨_, rfl⟩
      have hj2 : J pre (fun _ => False) W2 := by rw [← hW2]; exact sJ _ _ _ _ _ hj (ItStep.of_below bq)
      have d1 : W2.cell? ⟨Bs, 0, none⟩ = some (.slice (some ⟨b, off, none⟩) L cap) := by rw [← hW2]; exact c1
      have d2 : W2.cell? ⟨Bn, 0, none⟩ = some (.int .i64 n) := by rw [← hW2]; exact c2
      have hc2' := Lib.hid (show ChunkC Bs Bn b off L cap n W2 from ⟨d1, d2⟩)
      obtain ⟨fn, tmps, assign, body, hy, hR⟩ := yield_any 0 (hY.out pre j () (upL (j + 1) r) _ W2 hx.out hj2 trivial)
      have epv : pieceV b off n j = .slice (some ⟨b, off + p, none⟩) n n := by rw [hpj.out]; rfl
      rw [epv] at hy
      have HX := Lib.hid (show upL 0 M = (pre ++ [j]) ++ upL (j + 1) r by rw [hx.out]; simp [upL])
      have hpj2 := Lib.hid (show p + n = (j + 1) * n by rw [hpj.out, Nat.succ_mul])
      rw [hW2]
      have hsub : p + n - p = n := by omega
      clear hj c1 c2 hx hY hmin hmin2 bq hW2 hpj epv
      rename_i K1 a1 K2 a2
      refine a2 _ _ ?_
      simp [Act.put]
      gi_wp2_with fail
      refine ⟨rfl, hR.mono ?_⟩
      rintro e W3 ⟨hrd, (⟨rfl, hJ3⟩ | ⟨rfl, hJx3⟩)⟩
      · have hc3 := Lib.hid (hc2'.out.round hrd)
        obtain ⟨x1, x2⟩ := hc3.out
        clear hrd
        gi_wp2
        go_roundw
        case rel => exact ⟨r, j + 1, p + n, pre ++ [j], by go_num, HP.out, hpj2, HX, hJ3, hc3.out⟩
        case measure => (simp [intOf]; try omega)
      · clear hrd
        gi_wp2
        refine bodyPost_ret (results_none rfl _ _ _) rfl ?_
        exact ⟨⟨_, rfl⟩, .inr ⟨_, _, hJx3⟩⟩
end Go.Proofs.Ytieegaojcjhfdaa

/-
  The builtin append to a row of one's own: the row that comes back lies where the old one lay, or in a new block.
-/
namespace Go.Proofs.Ytieegaojcjhfdaa
open Go.RowKit
set_option linter.unusedVariables false
set_option linter.unusedSimpArgs false

theorem run_append_new {P : Program} (w : World) (base : Nat) (t ty e : TypeId) (i : TypeInfo) (z : Value) (size bytes : Nat) (ht : P.underlying t = some (.slice e)) (hi : P.info? e = some i) (hz : i.zero = some z)
    (hsize : i.size = size) (hby : i.bytes = bytes) (hzs : z.cells.size = size) (hsz : 0 < size)
    (v : Value) (n : Nat) (xs : List Value) (hown : w.ownsRow base e size v n xs)
    (ad : Addr) (m c : Nat) (news : List Value) (hl : news.length = m * size) (hnews : ∀ j u, news[j]? = some u → w.cell? (ad.add j) = some u) (h1 : ∀ u ∈ news, u.oneCell' = true)
    (h63 : n + m ≤ maxLen) (hbytes : (n + m) * bytes ≤ 140737488355328) (hbase : base ≤ w.heap.size) :
    ∃ v' w', (Builtin.append_ #[t, t] ty #[v, .slice (some ad) m c]).run P w = .ok v' w' ∧ w'.ownsRow base e size v' (n + m) (xs ++ news) ∧ w.grownBy w' v.ownBlock ∧ (∀ q, v'.ownBlock = some q → v.ownBlock = some q ∨ w.heap.size ≤ q) := by
  have hown0 := hown
  rcases hown.2 with ⟨rfl, rfl⟩ | ⟨g, cap, cur, rfl, hbg, hg, hnc, hcm, hcs, htk⟩
  · have hx : xs = [] := List.eq_nil_of_length_eq_zero (by have := hown.1; simpa using this)
    subst hx
    obtain ⟨v', w', hr, r1, r2, -⟩ := run_append_own (P := P) w w.heap.size t ty e i z size bytes ht hi hz hsize hby hzs hsz (.slice none 0 0) 0 [] (World.ownsRow_nil w _ e size) ad m c news hl hnews h1 h63 hbytes (Nat.le_refl _)
    exact ⟨v', w', hr, Joins.ownsRow_le r1 hbase, r2, fun q hq => .inr (r1.lt q hq).1⟩
  · by_cases hroom : n + m ≤ cap
    · obtain ⟨w', hr, r1, r2⟩ := run_append_fits (P := P) w base t ty e i size ht hi hsize g n cap xs hown0 ad m c news hl hnews h1 hroom
      exact ⟨_, w', hr, r1, r2, fun q hq => .inl hq⟩
    · have hxl : xs.length = n * size := hown.1
      have holds : ∀ j u, xs[j]? = some u → w.cell? ((⟨g, 0, none⟩ : Addr).add j) = some u := fun j u hj => hown0.cells rfl j u hj
      obtain ⟨v', w', hr, r1, r2⟩ := run_append_arg_grows (P := P) w t ty e i z size bytes ht hi hz hsize hby hzs hsz ⟨g, 0, none⟩ n cap xs hxl holds ad m c news hl hnews (by omega) h63 hbytes
      exact ⟨v', w', hr, Joins.ownsRow_le r1 hbase, ⟨r2.os, r2.tape, r2.output, r2.size, fun k hk _ => r2.block k hk (by intro e'; cases e')⟩, fun q hq => .inr (r1.lt q hq).1⟩

theorem wpListIn_append_new {F : Fence} {fn : Nat} {P : Program} (w : World) {ops : Array Oper} {rest : List Oper} {o : Oper} {a : Act} {Q : Exit → Act → World → Prop}
    (hg : o.guard = none) (s x : Operand) (t : TypeId) (hop : o.op = Op.call { callee := Callee.builtin Builtin.append, args := #[s, x], argTypes := #[t, t] })
    (base : Nat) (e : TypeId) (i : TypeInfo) (z : Value) (size bytes : Nat) (h1 : P.underlying t = some (.slice e)) (h2 : P.info? e = some i) (h3 : i.zero = some z) (h4 : i.size = size) (h5 : i.bytes = bytes) (h6 : z.cells.size = size) (h7 : 0 < size)
    (v : Value) (k : Nat) (xs : List Value) (hs : a.eval s = v) (hown : w.ownsRow base e size v k xs) (ad : Addr) (m c : Nat) (news : List Value) (hx : a.eval x = .slice (some ad) m c) (hn : news.length = m * size)
    (hc : ∀ j u, news[j]? = some u → w.cell? (ad.add j) = some u) (h1c : ∀ u ∈ news, u.oneCell' = true) (b1 : k + m ≤ maxLen) (b2 : (k + m) * bytes ≤ 140737488355328) (b3 : base ≤ w.heap.size)
    (hK : ∀ v' w', w'.ownsRow base e size v' (k + m) (xs ++ news) → w.grownBy w' v.ownBlock → (∀ q, v'.ownBlock = some q → v.ownBlock = some q ∨ w.heap.size ≤ q) → wpListIn F fn P ops Q rest (a.put o.dst v') w') :
    wpListIn F fn P ops Q (o :: rest) a w := by
  refine wpListIn_plain hg fun K hK' => ?_
  obtain ⟨v', w', hrun, r1, r2, r3⟩ := run_append_new (P := P) w base t o.type e i z size bytes h1 h2 h3 h4 h5 h6 h7 v k xs hown ad m c news hn hc h1c b1 b2 b3
  unfold Oper.wpIn
  refine ⟨?_, ?_⟩
  · simp [Oper.about, hop, resolve, Target.leads, Sem.run_pure]
  · rw [Oper.semAt_plain F _ _ (by rw [hop]; intro c hc'; cases hc')]
    simp [execOp, hop, resolve, invoke, builtin, hs, hx, hrun, Result.andThen]
    exact hK' _ _ (hK v' w' r1 r2 r3)
end Go.Proofs.Ytieegaojcjhfdaa

/-
  slices.AppendSeq and slices.Collect over the pieces of a slice; the pieces of a tensor's cells.
-/
namespace Go.Proofs.Ytieegaojcjhfdaa
open Go.RowKit Go.Shelf
attribute [local go_sem] Oper.semAt_some
set_option linter.unusedVariables false
set_option linter.unusedSimpArgs false

theorem sInfo : (Try.prog.info? 27).map (fun i => (i.zero, i.size, i.bytes)) = some (some (.slice none 0 0), 1, 24) := by kernel_rfl

theorem row_it {B : Nat} {e : TypeId} {v : Value} {n : Nat} {xs : List Value} {O O' : BSet} {W W' : World} (h : W.ownsRow B e 1 v n xs) (hO : ∀ q, v.ownBlock = some q → ¬ O q) (hs : ItStep O W O' W') :
    W'.ownsRow B e 1 v n xs ∧ ∀ q, v.ownBlock = some q → ¬ O' q := by
  have hlt := h.lt
  refine ⟨?_, fun q hq => not_own hs (hlt q hq).2 (hO q hq)⟩
  rcases h.2 with h2 | ⟨g, cap, cur, hv, hbg, hg, rest⟩
  · exact ⟨h.1, .inl h2⟩
  · have hq : v.ownBlock = some g := by rw [hv]; rfl
    exact ⟨h.1, .inr ⟨g, cap, cur, hv, hbg, (hs.block g (hlt g hq).2 (hO g hq)).trans hg, rest⟩⟩

/-- Between two rounds: the box holds a new row of the pieces so far. -/
def ColI (w : World) (b off n : Nat) (pre : List Nat) (O : BSet) (W : World) : Prop :=
  ∃ v, Has O W w.heap.size #[v] 60 ∧ W.ownsRow w.heap.size 27 1 v pre.length (pre.map (pieceV b off n)) ∧ (∀ q, v.ownBlock = some q → ¬ O q) ∧ Base w O W ∧ (∀ k, O k → k < W.heap.size)
theorem ColI.stable (w : World) (b off n : Nat) (pre : List Nat) : Stable (ColI w b off n pre) := by
  rintro O W O' W' ⟨v, h1, h2, h3, h4, h5⟩ hs
  obtain ⟨r1, r2⟩ := row_it h2 h3 hs
  exact ⟨v, h1.stable hs, r1, r2, h4.stable hs, fun k hk => (hs.top k hk).elim (fun h => Nat.lt_of_lt_of_le (h5 k h) hs.size) id⟩

theorem upL_mem : ∀ (r j x : Nat), x ∈ upL j r → j ≤ x ∧ x < j + r := by
  intro r
  induction r with
  | zero => intro j x h; simp [upL] at h
  | succ r ih =>
    intro j x h
    simp only [upL, List.mem_cons] at h
    rcases h with rfl | h
    · omega
    · have := ih _ _ h; omega
theorem upL_length : ∀ (r j : Nat), (upL j r).length = r := by
  intro r
  induction r with
  | zero => intro j; rfl
  | succ r ih => intro j; simp [upL, ih]

set_option maxRecDepth 100000 in
set_option maxHeartbeats 4000000 in
theorem appendseq_any (Bs Bn b off cap n M L : Nat) (hn : 1 ≤ n) (hL : L = M * n) (hc1 : L ≤ cap) (hc2 : cap ≤ 9223372036854775807) (hL6 : L ≤ 1000000) (hM : M ≤ 2000) (w : World) (hC : ChunkC Bs Bn b off L cap n w) :
    Calls Try.prog 49 #[.slice none 0 0, .func (.func 50) #[] #[.pointer (some ⟨Bs, 0, none⟩), .pointer (some ⟨Bn, 0, none⟩)]] w
      fun e w' => ∃ v, e = .returned v ∧ w'.ownsRow w.heap.size 27 1 v M ((upL 0 M).map (pieceV b off n)) ∧ Below w.heap.size w w' := by
  obtain ⟨i0, hi, hz0, hz1, hz2⟩ := info_parts sInfo
  have hIT := chunk_iter Bs Bn b off cap n M L hn hL hc1 hc2 hL6
  have hBs : Bs < w.heap.size := World.block_lt_of_cell? w _ hC.1
  have hBn : Bn < w.heap.size := World.block_lt_of_cell? w _ hC.2
  have z : Below w.heap.size w (w.alloc (.cells #[.slice none 0 0] 60)) := (Below.refl _ _).alloc (Nat.le_refl _) _
  obtain ⟨W, hW⟩ : ∃ W, w.alloc (.cells #[.slice none 0 0] 60) = W := ⟨_, rfl⟩
  have pB : Has (fun _ => False) W w.heap.size #[.slice none 0 0] 60 := by rw [← hW]; exact Has.made w _ _ (fun h => h)
  rw [hW] at z
  have hCW : ChunkC Bs Bn b off L cap n W := ⟨cell_later z hC.1, cell_later z hC.2⟩
  have hI0 : ColI w b off n [] (fun _ => False) W := ⟨_, pB, World.ownsRow_nil _ _ _ _, (fun _ h => by cases h), ⟨z, fun _ h => h.elim⟩, fun _ h => h.elim⟩
  have hsz : W.heap.size = w.heap.size + 1 := by rw [← hW]; simp
  clear pB hL
  refine (callsIn_wide (n := 1)).1 ?_
  refine callsIn_of_wp_marks Try.func49 rfl trivial ?_ rfl
  simp only [Try.ntmps49, List.size_toArray, List.length_cons, List.length_nil, Nat.reduceAdd, Nat.reduceSub, Array.replicate_succ, Array.replicate_zero, List.push_toArray, List.append_toArray, List.nil_append, List.cons_append]
  refine wpIn_wide.2 ?_
  go_wp2_with fail
  clear hW
  refine (wpIn_wide (n := 1)).1 ?_
  refine range_law (gf := 50) (lb := #[.pointer (some ⟨Bs, 0, none⟩), .pointer (some ⟨Bn, 0, none⟩)]) rfl (enters_of Try.func50 (by kernel_rfl) rfl) hIT (fun _ _ => rfl) ?hR
    (fun _ _ _ _ _ _ _ _ _ _ _ => trivial) (fun W' hb' => ⟨cell_later hb' hCW.1, cell_later hb' hCW.2⟩)
    (ColI w b off n) (fun _ _ _ _ => False) (ColI.stable w b off n) (fun _ _ _ _ _ _ h _ => h) hI0 ?round ?done ?stop
  case hR =>
    rintro k (rfl | rfl) <;> omega
  case stop =>
    intro D O c pre W' _ _ _ h
    exact h.elim
  case done =>
    rintro D O W' hD hO hdef ⟨v, hh, hr, hno, hB, -⟩
    have cB : W'.cell? ⟨w.heap.size, 0, none⟩ = some v := hh.cell 0
    rw [upL_length] at hr
    have fin : ∃ v', Ending.returned v = .returned v' ∧ (W'.putObj D (.deferred none)).ownsRow w.heap.size 27 1 v' M ((upL 0 M).map (pieceV b off n)) ∧ Below w.heap.size w (W'.putObj D (.deferred none)) :=
      ⟨v, rfl, ownsRow_putObj hr _ hdef rfl, below_putObj hB.1 D _ (by omega)⟩
    have F := Lib.hid fin
    have HD := Lib.hid hdef
    clear fin hdef hh hr hno hB
    go_wp2_with fail
    exact leaves_mark HD.out ⟨_, results_tmp (t := 4) rfl _ _ _, F.out⟩
  case round =>
    rintro l pre x y rest O Wa W2 hxs ⟨v, hh, hr, hno, hB, htop⟩ _
    have cB : W2.cell? ⟨w.heap.size, 0, none⟩ = some v := hh.cell 0
    have fB := hh.frozen 0
    have hpl : pre.length + 1 ≤ M := by
      have := congrArg List.length hxs
      rw [upL_length] at this
      simp at this
      omega
    have hs2 : w.heap.size ≤ W2.heap.size := hB.1.size
    have hal := hr.alloc (.cells #[pieceV b off n x] 27)
    have hnew : ∀ j u, [pieceV b off n x][j]? = some u → (W2.alloc (.cells #[pieceV b off n x] 27)).cell? ((⟨W2.heap.size, 0, none⟩ : Addr).add j) = some u := by
      intro j u hj
      match j, hj with
      | 0, hj =>
        simp at hj; subst hj
        rw [Addr.add_lit, World.cell?_alloc_at _ _ _ _ rfl]; rfl
    have hone : ∀ u ∈ [pieceV b off n x], u.oneCell' = true := by intro u hu; simp at hu; subst hu; rfl
    have hlen6 : pre.length + 1 ≤ maxLen := by unfold maxLen; omega
    have hby6 : (pre.length + 1) * 24 ≤ 140737488355328 := by omega
    have hbs6 : w.heap.size ≤ (W2.alloc (.cells #[pieceV b off n x] 27)).heap.size := by simp; omega
    have HR := Lib.hid hr
    have HH := Lib.hid hh
    have HN := Lib.hid hno
    have HB := Lib.hid hB
    have HT := Lib.hid htop
    clear hh hr hno hB htop hxs hC hIT
    obtain ⟨q, hq⟩ : ∃ q, off + x * n = q := ⟨_, rfl⟩
    have ep : pieceV b off n x = .slice (some ⟨b, q, none⟩) n n := by unfold pieceV; rw [hq]
    have EP := Lib.hid ep
    rw [ep] at hal hnew hone hbs6
    simp only [ep]
    clear ep hq
    gi_wp2
    refine ⟨trivial, ?_⟩
    gi_wp2_with (gi_at_builtin; refine wpListIn_append_new _ rfl _ _ 60 rfl w.heap.size 27 i0 (.slice none 0 0) 1 24 Try.underlying60 hi hz0 hz1 hz2 rfl (by decide) v pre.length (pre.map (pieceV b off n)) rfl hal ⟨W2.heap.size, 0, none⟩ 1 1 [.slice (some ⟨b, q, none⟩) n n] rfl rfl hnew hone hlen6 hby6 hbs6 ?_)
    intro v' w4 hown hgrow hwhere
    rw [← EP.out] at hown hgrow
    obtain ⟨g', cap', rfl⟩ := ownsRow_succ hown
    obtain ⟨a1, a2, a3, a4, a5⟩ := Boxed.appended HH.out.2 (by decide) HR.out hs2 (Nat.le_refl _) hown hgrow
    have c1 : w4.cell? ⟨w.heap.size, 0, none⟩ = some v := by rw [Joins.cell_of_block a1]; rfl
    have f1 : w4.frozen? ⟨w.heap.size, 0, none⟩ = false := Joins.unfrozen_of_block a1 0
    have fin : RdStep (fun k => ChunkR Bs Bn k ∨ O k) W2 (w4.setCell ⟨w.heap.size, 0, none⟩ (.slice (some ⟨g', 0, none⟩) (pre.length + 1) cap')) ∧ ColI w b off n (pre ++ [x]) O (w4.setCell ⟨w.heap.size, 0, none⟩ (.slice (some ⟨g', 0, none⟩) (pre.length + 1) cap')) := by
      have hsz2 : W2.heap.size ≤ (w4.setCell ⟨w.heap.size, 0, none⟩ (.slice (some ⟨g', 0, none⟩) (pre.length + 1) cap')).heap.size := a5.size
      refine ⟨⟨a5.os, a5.tape, a5.output, hsz2, ?_⟩, _, ⟨HH.out.1, a2⟩, ?_, ?_, ⟨HB.out.1.trans a5, HB.out.2⟩, fun k hk => Nat.lt_of_lt_of_le (HT.out k hk) hsz2⟩
      · intro k hk hm
        have hkB : k ≠ w.heap.size := by
          rintro rfl
          rcases hm with (h | h) | h
          · omega
          · omega
          · exact HH.out.1 h
        have hkv : some k ≠ v.ownBlock := by
          intro e'
          rcases hm with (h | h) | h
          · have := (HR.out.lt k e'.symm).1; omega
          · have := (HR.out.lt k e'.symm).1; omega
          · exact HN.out k e'.symm h
        rw [Below.heap_setCell w4 ⟨w.heap.size, 0, none⟩ _ k hkB, hgrow.block k (by simp; omega) hkv]
        exact Below.heap_alloc _ _ _ hk
      · have e1 : (pre ++ [x]).length = pre.length + 1 := by simp
        have e2 : (pre ++ [x]).map (pieceV b off n) = pre.map (pieceV b off n) ++ [pieceV b off n x] := by simp
        rw [e1, e2]
        exact a3
      · intro q hq ho
        rcases hwhere q hq with h | h
        · exact HN.out q h ho
        · have := HT.out q ho
          omega
    have F := Lib.hid fin
    clear fin a1 a2 a3 a4 a5 hown hgrow hwhere hal hnew
    gi_wp2_with fail
    exact F.out

set_option maxHeartbeats 400000 in
theorem collect_any (Bs Bn b off cap n M L : Nat) (hn : 1 ≤ n) (hL : L = M * n) (hc1 : L ≤ cap) (hc2 : cap ≤ 9223372036854775807) (hL6 : L ≤ 1000000) (hM : M ≤ 2000) (w : World) (hC : ChunkC Bs Bn b off L cap n w) :
    Calls Try.prog 42 #[.func (.func 50) #[] #[.pointer (some ⟨Bs, 0, none⟩), .pointer (some ⟨Bn, 0, none⟩)]] w
      fun e w' => ∃ v, e = .returned v ∧ w'.ownsRow w.heap.size 27 1 v M ((upL 0 M).map (pieceV b off n)) ∧ Below w.heap.size w w' := by
  have C := Lib.hid (appendseq_any Bs Bn b off cap n M L hn hL hc1 hc2 hL6 hM w hC)
  clear hC hL
  go_enter Try.func42, Try.ntmps42
  go_wp2_with fail
  refine C.out.mono ?_
  rintro e w1 ⟨v, rfl, ho, hb⟩
  have P := Lib.hid (And.intro ho hb)
  clear ho hb
  go_wp2_with fail
  go_ret
  exact ⟨v, rfl, P.out.1, P.out.2⟩
end Go.Proofs.Ytieegaojcjhfdaa

/-
  Plain mathematics of package safe: bounds, sums and products of lists.
-/
namespace Go.Proofs.Ytieegaojcjhfdaa
set_option linter.unusedVariables false
set_option linter.unusedSimpArgs false

/-- From lo to hi. -/
def inR (lo hi n : Int) : Bool := decide (lo ≤ n) && decide (n ≤ hi)
theorem inR_yes {lo hi n : Int} (h1 : lo ≤ n) (h2 : n ≤ hi) : inR lo hi n = true := by simp [inR, h1, h2]
theorem inR_low {lo hi n : Int} (h1 : ¬ lo ≤ n) : inR lo hi n = false := by simp [inR]; omega
theorem inR_high {lo hi n : Int} (h1 : ¬ n ≤ hi) : inR lo hi n = false := by simp [inR]; omega
theorem inR_bounds {lo hi n : Int} (h : inR lo hi n = true) : lo ≤ n ∧ n ≤ hi := by simpa [inR] using h

/-- All elements are from lo to hi. -/
def allR (lo hi : Int) (l : List Int) : Bool := l.all (inR lo hi)
theorem allR_step (lo hi : Int) (l : List Int) (k : Nat) (hk : k < l.length) (h : allR lo hi (l.take k) = true) (h' : inR lo hi (l.getD k 0) = true) : allR lo hi (l.take (k + 1)) = true := by
  unfold allR at *
  rw [List.take_add_one, List.all_append, h]
  simpa [List.getElem?_eq_getElem hk, List.getD] using h'
theorem allR_stop (lo hi : Int) (l : List Int) (k : Nat) (hk : k < l.length) (h' : inR lo hi (l.getD k 0) = false) : false = allR lo hi l := by
  unfold allR
  symm
  rw [List.all_eq_false]
  refine ⟨l[k], List.getElem_mem hk, ?_⟩
  have : l.getD k 0 = l[k] := by simp [List.getD, List.getElem?_eq_getElem hk]
  rw [this] at h'
  simp [h']
theorem allR_full (lo hi : Int) (l : List Int) (k : Nat) (hk : l.length ≤ k) (h : allR lo hi (l.take k) = true) : true = allR lo hi l := by
  rw [List.take_of_length_le hk] at h; exact h.symm
theorem allR_getD {lo hi : Int} {l : List Int} (h : allR lo hi l = true) (k : Nat) (hk : k < l.length) : lo ≤ l.getD k 0 ∧ l.getD k 0 ≤ hi := by
  have : l.getD k 0 = l[k] := by simp [List.getD, List.getElem?_eq_getElem hk]
  rw [this]
  exact inR_bounds (List.all_eq_true.1 h _ (List.getElem_mem hk))
theorem allR_more {lo lo' hi : Int} {l : List Int} (hl : lo' ≤ lo) (h : allR lo hi l = true) : allR lo' hi l = true := by
  unfold allR at *
  rw [List.all_eq_true] at *
  intro x hx
  obtain ⟨a, b⟩ := inR_bounds (h x hx)
  exact inR_yes (by omega) b

/-- The sum and the product. -/
def sumI (l : List Int) : Int := l.foldl (· + ·) 0
def prodI (l : List Int) : Int := l.foldl (· * ·) 1
theorem foldl_add (l : List Int) (a : Int) : l.foldl (· + ·) a = a + sumI l := by
  unfold sumI
  induction l generalizing a with
  | nil => simp
  | cons x l ih => simp only [List.foldl_cons]; rw [ih, ih (0 + x)]; omega
theorem foldl_mul (l : List Int) (a : Int) : l.foldl (· * ·) a = a * prodI l := by
  unfold prodI
  induction l generalizing a with
  | nil => simp
  | cons x l ih => simp only [List.foldl_cons]; rw [ih, ih (1 * x), Int.one_mul, Int.mul_assoc]
theorem sumI_cons (x : Int) (l : List Int) : sumI (x :: l) = x + sumI l := by
  have := foldl_add l (0 + x); unfold sumI at *; simp only [List.foldl_cons]; omega
theorem prodI_cons (x : Int) (l : List Int) : prodI (x :: l) = x * prodI l := by
  have := foldl_mul l (1 * x); rw [Int.one_mul] at this; unfold prodI at *; simp only [List.foldl_cons, Int.one_mul]; exact this
theorem sumI_append (l m : List Int) : sumI (l ++ m) = sumI l + sumI m := by
  have := foldl_add m (sumI l); unfold sumI at *; rw [List.foldl_append]; exact this
theorem prodI_append (l m : List Int) : prodI (l ++ m) = prodI l * prodI m := by
  have := foldl_mul m (prodI l); unfold prodI at *; rw [List.foldl_append]; exact this
theorem sumI_step (l : List Int) (k : Nat) (hk : k < l.length) : sumI (l.take (k + 1)) = sumI (l.take k) + l.getD k 0 := by
  rw [List.take_add_one, sumI_append]; simp [List.getElem?_eq_getElem hk, List.getD, sumI]
theorem prodI_step (l : List Int) (k : Nat) (hk : k < l.length) : prodI (l.take (k + 1)) = prodI (l.take k) * l.getD k 0 := by
  rw [List.take_add_one, prodI_append]; simp [List.getElem?_eq_getElem hk, List.getD, prodI]
theorem sumI_nonneg {hi : Int} {l : List Int} (h : allR 0 hi l = true) : 0 ≤ sumI l := by
  induction l with
  | nil => simp [sumI]
  | cons x l ih =>
    unfold allR at h; rw [List.all_cons, Bool.and_eq_true] at h
    have := inR_bounds h.1; have := ih h.2; rw [sumI_cons]; omega
theorem prodI_pos {hi : Int} {l : List Int} (h : allR 1 hi l = true) : 1 ≤ prodI l := by
  induction l with
  | nil => simp [prodI]
  | cons x l ih =>
    unfold allR at h; rw [List.all_cons, Bool.and_eq_true] at h
    have := inR_bounds h.1; have := ih h.2; rw [prodI_cons]
    have := Int.mul_le_mul (show (1 : Int) ≤ x by omega) (show (1 : Int) ≤ prodI l by omega) (by omega) (by omega)
    omega
theorem allR_take {lo hi : Int} {l : List Int} (h : allR lo hi l = true) (k : Nat) : allR lo hi (l.take k) = true := by
  unfold allR at *; rw [List.all_eq_true] at *; intro x hx; exact h x (List.mem_of_mem_take hx)
theorem allR_drop {lo hi : Int} {l : List Int} (h : allR lo hi l = true) (k : Nat) : allR lo hi (l.drop k) = true := by
  unfold allR at *; rw [List.all_eq_true] at *; intro x hx; exact h x (List.mem_of_mem_drop hx)
theorem sumI_take_le {hi : Int} {l : List Int} (h : allR 0 hi l = true) (k : Nat) : sumI (l.take k) ≤ sumI l := by
  have e : sumI l = sumI (l.take k) + sumI (l.drop k) := by rw [← sumI_append, List.take_append_drop]
  have := sumI_nonneg (allR_drop h k); omega
theorem prodI_take_le {hi : Int} {l : List Int} (h : allR 1 hi l = true) (k : Nat) : prodI (l.take k) ≤ prodI l := by
  have e : prodI l = prodI (l.take k) * prodI (l.drop k) := by rw [← prodI_append, List.take_append_drop]
  have h1 := prodI_pos (allR_drop h k)
  have h2 := prodI_pos (allR_take h k)
  have := Int.mul_le_mul (show prodI (l.take k) ≤ prodI (l.take k) by omega) h1 (by omega) (by omega)
  omega
theorem prodI_zero {hi : Int} {l : List Int} (h : allR 0 hi l = true) (h' : allR 1 hi l = false) : prodI l = 0 := by
  unfold allR at h'
  rw [List.all_eq_false] at h'
  obtain ⟨x, hx, hn⟩ := h'
  obtain ⟨s, t, rfl⟩ := List.append_of_mem hx
  have hb := inR_bounds (List.all_eq_true.1 h x hx)
  have : x = 0 := by
    apply Decidable.byContradiction; intro hne
    exact hn (inR_yes (by omega) hb.2)
  subst this
  rw [prodI_append, prodI_cons]; simp

/-- What Add and Mul tell: the number and the error. -/
def addN (l : List Int) : Int := if allR 0 1099511627776 l = true ∧ sumI l ≤ 1099511627776 then sumI l else 0
def addE (l : List Int) : Int := if allR 0 1099511627776 l = true then (if sumI l ≤ 1099511627776 then 0 else 17) else 11
def mulN (l : List Int) : Int := if allR 0 1099511627776 l = true ∧ prodI l ≤ 1099511627776 then prodI l else 0
def mulE (l : List Int) : Int := if allR 0 1099511627776 l = true then (if prodI l ≤ 1099511627776 then 0 else 17) else 11
theorem add_bad {l : List Int} (h : allR 0 1099511627776 l = false) : 0 = addN l ∧ 11 = addE l := by simp [addN, addE, h]
theorem add_big {l : List Int} (h : allR 0 1099511627776 l = true) (h' : 1099511627776 < sumI l) : 0 = addN l ∧ 17 = addE l := by
  have : ¬ sumI l ≤ 1099511627776 := by omega
  simp [addN, addE, h, this]
theorem add_ok {l : List Int} (h : allR 0 1099511627776 l = true) (h' : sumI l ≤ 1099511627776) : sumI l = addN l ∧ 0 = addE l := by simp [addN, addE, h, h']
theorem mul_bad {l : List Int} (h : allR 0 1099511627776 l = false) : 0 = mulN l ∧ 11 = mulE l := by simp [mulN, mulE, h]
theorem mul_big {l : List Int} (h : allR 0 1099511627776 l = true) (h' : 1099511627776 < prodI l) : 0 = mulN l ∧ 17 = mulE l := by
  have : ¬ prodI l ≤ 1099511627776 := by omega
  simp [mulN, mulE, h, this]
theorem mul_ok {l : List Int} (h : allR 0 1099511627776 l = true) (h' : prodI l ≤ 1099511627776) : prodI l = mulN l ∧ 0 = mulE l := by simp [mulN, mulE, h, h']
theorem mul_nought {l : List Int} (h : allR 0 1099511627776 l = true) (h' : allR 1 1099511627776 l = false) : 0 = mulN l ∧ 0 = mulE l := by
  have e := prodI_zero h h'
  simp [mulN, mulE, h, e]
theorem addN_bounds (l : List Int) : 0 ≤ addN l ∧ addN l ≤ 1099511627776 := by
  unfold addN; split
  · rename_i h; exact ⟨sumI_nonneg h.1, h.2⟩
  · omega
theorem prodI_nonneg {hi : Int} {l : List Int} (h : allR 0 hi l = true) : 0 ≤ prodI l := by
  cases c : allR 1 hi l
  · rw [prodI_zero h c]; omega
  · have := prodI_pos c; omega
theorem mulN_bounds (l : List Int) : 0 ≤ mulN l ∧ mulN l ≤ 1099511627776 := by
  unfold mulN; split
  · rename_i h; exact ⟨prodI_nonneg h.1, h.2⟩
  · omega

/-- The greatest element, at least 0. -/
def maxI (l : List Int) : Int := l.foldl max 0
theorem maxI_step (l : List Int) (k : Nat) (hk : k < l.length) : maxI (l.take (k + 1)) = max (maxI (l.take k)) (l.getD k 0) := by
  unfold maxI; rw [List.take_add_one, List.foldl_append]; simp [List.getElem?_eq_getElem hk, List.getD]

/-- Turned round: the same. -/
theorem allR_reverse (lo hi : Int) (l : List Int) : allR lo hi l.reverse = allR lo hi l := by unfold allR; rw [List.all_reverse]
theorem sumI_reverse (l : List Int) : sumI l.reverse = sumI l := by
  induction l with
  | nil => rfl
  | cons x l ih =>
    have e : sumI [x] = x := by simp [sumI]
    rw [List.reverse_cons, sumI_append, e, sumI_cons, ih, Int.add_comm]
theorem prodI_reverse (l : List Int) : prodI l.reverse = prodI l := by
  induction l with
  | nil => rfl
  | cons x l ih =>
    have e : prodI [x] = x := by simp [prodI]
    rw [List.reverse_cons, prodI_append, e, prodI_cons, ih, Int.mul_comm]
theorem addN_reverse (l : List Int) : addN l.reverse = addN l := by unfold addN; rw [allR_reverse, sumI_reverse]
theorem addE_reverse (l : List Int) : addE l.reverse = addE l := by unfold addE; rw [allR_reverse, sumI_reverse]
theorem mulN_reverse (l : List Int) : mulN l.reverse = mulN l := by unfold mulN; rw [allR_reverse, prodI_reverse]
theorem mulE_reverse (l : List Int) : mulE l.reverse = mulE l := by unfold mulE; rw [allR_reverse, prodI_reverse]
end Go.Proofs.Ytieegaojcjhfdaa

/-
  Contracts of package safe, the closures: within, Right, all.
-/
namespace Go.Proofs.Ytieegaojcjhfdaa
open Go.RowKit
set_option linter.unusedVariables false
set_option linter.unusedSimpArgs false

set_option maxHeartbeats 400000 in
theorem within1_any (lo hi n : Int) (p q : Addr) (w : World) (hp : w.cell? p = some (.int .i64 lo)) (hq : w.cell? q = some (.int .i64 hi)) :
    Calls Try.prog 55 #[.int .i64 n, .pointer (some p), .pointer (some q)] w fun e w' => e = .returned (.bool (inR lo hi n)) ∧ w = w' := by
  by_cases c : lo ≤ n
  · by_cases d : n ≤ hi
    · have E := Lib.hid (inR_yes c d).symm
      go_enter Try.func55, Try.ntmps55
      go_wp2_with fail
      go_ret
      exact ⟨ret_bool E.out, rfl⟩
    · have E := Lib.hid (inR_high (lo := lo) d).symm
      go_enter Try.func55, Try.ntmps55
      go_wp2_with fail
      go_ret
      exact ⟨ret_bool E.out, rfl⟩
  · have E := Lib.hid (inR_low (hi := hi) c).symm
    go_enter Try.func55, Try.ntmps55
    go_wp2_with fail
    go_ret
    exact ⟨ret_bool E.out, rfl⟩

set_option maxHeartbeats 400000 in
theorem within_any (lo hi : Int) (w : World) :
    Calls Try.prog 54 #[.int .i64 lo, .int .i64 hi] w fun e w' => e = .returned (.func (.func 55) #[] #[.pointer (some ⟨w.heap.size, 0, none⟩), .pointer (some ⟨w.heap.size + 1, 0, none⟩)]) ∧
      w'.cell? ⟨w.heap.size, 0, none⟩ = some (.int .i64 lo) ∧ w'.cell? ⟨w.heap.size + 1, 0, none⟩ = some (.int .i64 hi) ∧ Below w.heap.size w w' ∧ w'.heap.size = w.heap.size + 2 := by
  have hmf : ∀ (fn : Fn) (first cap : Array Value) (w : World), (Instr.makeFunc fn first cap).run Try.prog w = .ok (.func fn first cap) w := fun _ _ _ _ => rfl
  go_enter Try.func54, Try.ntmps54
  go_wp2_with fail
  go_ret
  refine ⟨rfl, ?_, ?_, ((Below.refl _ _).alloc (Nat.le_refl _) _).alloc (by simp) _, by simp⟩
  · rw [World.cell?_alloc_past _ _ _ (by simp), World.cell?_alloc_at _ _ _ _ rfl]; rfl
  · rw [World.cell?_alloc_at _ _ _ _ (by simp)]; rfl

set_option maxHeartbeats 400000 in
theorem right_any (n : Int) (w : World) :
    Calls Try.prog 53 #[.int .i64 n] w fun e w' => e = .returned (.bool (inR 0 1099511627776 n)) ∧ Below w.heap.size w w' := by
  have C := Lib.hid (within_any 0 1099511627776 w)
  go_enter Try.func53, Try.ntmps53
  go_wp2_with fail
  refine C.out.mono ?_
  rintro e w1 ⟨rfl, hp, hq, hb, -⟩
  have D := Lib.hid (within1_any 0 1099511627776 n _ _ w1 hp hq)
  clear hp hq
  go_wp2_with fail
  refine D.out.mono ?_
  rintro e w2 ⟨rfl, rfl⟩
  go_wp2_with fail
  go_ret
  exact ⟨rfl, hb⟩

set_option maxHeartbeats 1000000 in
theorem all_right (a : Option Addr) (len cap : Nat) (zs : List Int) (w : World) (h : IntsAt w a len zs) :
    Calls Try.prog 52 #[.slice a len cap, .func (.func 53) #[] #[]] w fun e w' => e = .returned (.bool (allR 0 1099511627776 zs)) ∧ Below w.heap.size w w' := by
  obtain ⟨h1, h2, h3, h4⟩ := h
  go_enter Try.func52, Try.ntmps52
  go_wp2_with fail
  go_loopw [9] (fun i wr => ∃ k : Nat, k ≤ len ∧ i = .int .i64 k ∧ Hid (allR 0 1099511627776 (zs.take k) = true) ∧ Below w.heap.size w wr) (fun i _ => len - (intOf i).toNat)
  case atStart => exact ⟨0, Nat.zero_le _, rfl, rfl, Below.refl _ _⟩
  case round =>
    obtain ⟨k, hk, rfl, hall, hb⟩ := hrel
    by_cases hlt : k < len
    · rcases h4 with h4 | ⟨b, off, rfl, hc⟩
      · omega
      · have hcell := cell_later hb (hc k hlt)
        clear hc
        have S := Lib.hid (allR_step 0 1099511627776 zs k (by omega) hall.out)
        have T := Lib.hid (allR_stop 0 1099511627776 zs k (by omega))
        generalize zs.getD k 0 = x at *
        clear h1 h3
        have C := Lib.hid (right_any x wr)
        cases c : inR 0 1099511627776 x
        · have C2 := C.out
          rw [c] at C2
          have C3 := Lib.hid C2
          have T2 := Lib.hid (T.out c)
          clear C2 C T S c
          go_wp2_with fail
          refine C3.out.mono ?_
          rintro e w1 ⟨rfl, hb1⟩
          go_wp2_with fail
          go_ret
          exact ⟨ret_bool T2.out, hb.trans (hb1.mono hb.size)⟩
        · have C2 := C.out
          rw [c] at C2
          have C3 := Lib.hid C2
          have T2 := Lib.hid (S.out c)
          clear C2 C T S c
          go_wp2_with fail
          refine C3.out.mono ?_
          rintro e w1 ⟨rfl, hb1⟩
          go_wp2_with fail
          go_roundw
          case rel => exact ⟨k + 1, by omega, by go_num, T2, hb.trans (hb1.mono hb.size)⟩
          case measure => (simp [intOf]; try omega)
    · have T2 := Lib.hid (allR_full 0 1099511627776 zs k (by omega) hall.out)
      clear h1 h3 h4
      go_wp2_with fail
      go_ret
      exact ⟨ret_bool T2.out, hb⟩

set_option maxHeartbeats 1000000 in
theorem all_within (lo hi : Int) (p q : Addr) (a : Option Addr) (len cap : Nat) (zs : List Int) (w : World) (h : IntsAt w a len zs) (hp : w.cell? p = some (.int .i64 lo)) (hq : w.cell? q = some (.int .i64 hi)) :
    Calls Try.prog 52 #[.slice a len cap, .func (.func 55) #[] #[.pointer (some p), .pointer (some q)]] w fun e w' => e = .returned (.bool (allR lo hi zs)) ∧ w = w' := by
  obtain ⟨h1, h2, h3, h4⟩ := h
  have D := Lib.hid (fun n => within1_any lo hi n p q w hp hq)
  clear hp hq
  go_enter Try.func52, Try.ntmps52
  go_wp2_with fail
  go_loop [9] (fun i => ∃ k : Nat, k ≤ len ∧ i = .int .i64 k ∧ Hid (allR lo hi (zs.take k) = true)) (fun i => len - (intOf i).toNat)
  case atStart => exact ⟨0, Nat.zero_le _, rfl, rfl⟩
  case round =>
    obtain ⟨k, hk, rfl, hall⟩ := hrel
    by_cases hlt : k < len
    · rcases h4 with h4 | ⟨b, off, rfl, hc⟩
      · omega
      · have hcell := hc k hlt
        clear hc
        have S := Lib.hid (allR_step lo hi zs k (by omega) hall.out)
        have T := Lib.hid (allR_stop lo hi zs k (by omega))
        generalize zs.getD k 0 = x at *
        clear h1 h3
        have C := Lib.hid (D.out x)
        cases c : inR lo hi x
        · have C2 := C.out
          rw [c] at C2
          have C3 := Lib.hid C2
          have T2 := Lib.hid (T.out c)
          clear C2 C T S c
          go_wp2_with fail
          refine C3.out.mono ?_
          rintro e w1 ⟨rfl, rfl⟩
          go_wp2_with fail
          go_ret
          exact ⟨ret_bool T2.out, rfl⟩
        · have C2 := C.out
          rw [c] at C2
          have C3 := Lib.hid C2
          have T2 := Lib.hid (S.out c)
          clear C2 C T S c
          go_wp2_with fail
          refine C3.out.mono ?_
          rintro e w1 ⟨rfl, rfl⟩
          go_wp2_with fail
          go_round
          case rel => exact ⟨k + 1, by omega, by go_num, T2⟩
          case measure => (simp [intOf]; try omega)
    · have T2 := Lib.hid (allR_full lo hi zs k (by omega) hall.out)
      clear h1 h3 h4
      go_wp2_with fail
      go_ret
      exact ⟨ret_bool T2.out, rfl⟩

end Go.Proofs.Ytieegaojcjhfdaa

/-
  Contracts of package safe: Add, Mul, Max, Sub, Share.
-/
namespace Go.Proofs.Ytieegaojcjhfdaa
open Go.RowKit
set_option linter.unusedVariables false
set_option linter.unusedSimpArgs false

theorem quo_lt {t x : Int} (h1 : 1 ≤ t) (h : 1099511627776 / t < x) : 1099511627776 < t * x := by
  have := (Int.ediv_lt_iff_lt_mul (show 0 < t by omega)).1 h
  rw [Int.mul_comm]; exact this
theorem quo_ge {t x : Int} (h1 : 1 ≤ t) (h : ¬ 1099511627776 / t < x) : t * x ≤ 1099511627776 := by
  have := (Int.le_ediv_iff_mul_le (show 0 < t by omega)).1 (show x ≤ 1099511627776 / t by omega)
  rw [Int.mul_comm]; exact this

set_option maxHeartbeats 1000000 in
theorem safemul_any (a : Option Addr) (len cap : Nat) (zs : List Int) (w : World) (h : IntsAt w a len zs) :
    Calls Try.prog 48 #[.slice a len cap] w fun e w' => e = .returned (.tuple #[.int .i64 (mulN zs), .int .i64 (mulE zs)]) ∧ Below w.heap.size w w' := by
  have c0 := all_right a len cap zs w h
  have H := Lib.hid h
  obtain ⟨h1, h2, h3, h4⟩ := h
  cases c : allR 0 1099511627776 zs
  · rw [c] at c0
    have C := Lib.hid c0
    have E := Lib.hid (mul_bad c)
    clear c c0 h4
    go_enter Try.func48, Try.ntmps48
    go_wp2_with fail
    refine C.out.mono ?_
    rintro e w1 ⟨rfl, hb⟩
    go_wp2_with fail
    go_ret2
    exact ⟨ret_ints2 E.out.1 E.out.2, hb⟩
  · rw [c] at c0
    have C := Lib.hid c0
    have c' := Lib.hid c
    clear c0 c
    go_enter Try.func48, Try.ntmps48
    go_wp2_with fail
    refine C.out.mono ?_
    rintro e w1 ⟨rfl, hb⟩
    have D := Lib.hid (within_any 1 1099511627776 w1)
    go_wp2_with fail
    refine D.out.mono ?_
    rintro e w2 ⟨rfl, hp, hq, hb2, -⟩
    have hb3 : Below w.heap.size w w2 := hb.trans (hb2.mono hb.size)
    have d0 := all_within 1 1099511627776 _ _ a len cap zs w2 (H.out.kept hb3) hp hq
    clear hp hq hb2 D C
    cases d : allR 1 1099511627776 zs
    · rw [d] at d0
      have D := Lib.hid d0
      have E := Lib.hid (mul_nought c'.out d)
      clear d d0 h4
      go_wp2_with fail
      refine D.out.mono ?_
      rintro e w3 ⟨rfl, rfl⟩
      go_wp2_with fail
      go_ret2
      exact ⟨ret_ints2 E.out.1 E.out.2, hb3⟩
    · rw [d] at d0
      have D := Lib.hid d0
      have d' := Lib.hid d
      clear d d0
      go_wp2_with fail
      refine D.out.mono ?_
      rintro e w3 ⟨rfl, rfl⟩
      go_wp2_with fail
      go_loop [4, 16] (fun t i => ∃ k : Nat, k ≤ len ∧ i = .int .i64 k ∧ t = .int .i64 (prodI (zs.take k)) ∧ prodI (zs.take k) ≤ 1099511627776) (fun _ i => len - (intOf i).toNat)
      case atStart => exact ⟨0, Nat.zero_le _, rfl, rfl, by simp [prodI]⟩
      case round =>
        obtain ⟨k, hk, rfl, rfl, hle⟩ := hrel
        have s0 := prodI_pos (allR_take d'.out k)
        by_cases hlt : k < len
        · rcases h4 with h4 | ⟨b, off, rfl, hc⟩
          · omega
          · have hcell := cell_later hb3 (hc k hlt)
            clear hc
            have hstep := prodI_step zs k (by omega)
            have htot := prodI_take_le d'.out (k + 1)
            obtain ⟨x1, x2⟩ := allR_getD d'.out k (by omega)
            generalize zs.getD k 0 = x at *
            generalize prodI (zs.take k) = t at *
            have hs := Lib.hid hstep
            clear h1 h3
            by_cases hbig : 1099511627776 / t < x
            · have E := Lib.hid (mul_big c'.out (by have := quo_lt s0 hbig; omega))
              clear htot hstep
              go_wp2_with fail
              go_ret2
              exact ⟨ret_ints2 E.out.1 E.out.2, hb3⟩
            · have p1 := quo_ge s0 hbig
              have p2 := Int.mul_le_mul s0 x1 (by omega) (by omega)
              have p3 : 0 ≤ t * x := by omega
              clear htot hstep p2
              go_wp2_with fail
              go_round
              case rel => exact ⟨k + 1, by omega, by go_num, by rw [hs.out], by rw [hs.out]; omega⟩
              case measure => (simp [intOf]; try omega)
        · have e : prodI (zs.take k) = prodI zs := by rw [List.take_of_length_le (by omega)]
          rw [e] at hle
          have E := mul_ok c'.out hle
          rw [← e] at E
          have E' := Lib.hid E
          clear E e hle
          generalize prodI (zs.take k) = t at *
          clear h1 h3 h4
          go_wp2_with fail
          go_ret2
          exact ⟨ret_ints2 E'.out.1 E'.out.2, hb3⟩

end Go.Proofs.Ytieegaojcjhfdaa

/-
  Plain mathematics of package shape: valid shapes, their sizes, lists changed at one place.
-/
namespace Go.Proofs.Ytieegaojcjhfdaa
set_option linter.unusedVariables false
set_option linter.unusedSimpArgs false

/-- A valid shape. -/
def rightS (l : List Int) : Bool := decide (1 ≤ l.length) && decide (l.length ≤ 4) && allR 1 1024 l && decide (prodI l ≤ 65536)
theorem rightS_short {l : List Int} (h : l.length < 1) : rightS l = false := by simp [rightS]; omega
theorem rightS_long {l : List Int} (h : 4 < l.length) : rightS l = false := by
  have : ¬ l.length ≤ 4 := by omega
  simp [rightS, this]
theorem rightS_side {l : List Int} (h : allR 1 1024 l = false) : rightS l = false := by simp [rightS, h]
theorem rightS_big {l : List Int} (h : 65536 < prodI l) : rightS l = false := by
  have : ¬ prodI l ≤ 65536 := by omega
  simp [rightS, this]
theorem rightS_yes {l : List Int} (h1 : 1 ≤ l.length) (h2 : l.length ≤ 4) (h3 : allR 1 1024 l = true) (h4 : prodI l ≤ 65536) : rightS l = true := by simp [rightS, h1, h2, h3, h4]
theorem rightS_parts {l : List Int} (h : rightS l = true) : 1 ≤ l.length ∧ l.length ≤ 4 ∧ allR 1 1024 l = true ∧ prodI l ≤ 65536 := by
  simp [rightS] at h; exact ⟨h.1.1.1, h.1.1.2, h.1.2, h.2⟩

def sizeN (l : List Int) : Int := if rightS l = true then prodI l else 0
def sizeE (l : List Int) : Int := if rightS l = true then 0 else 20
theorem size_no {l : List Int} (h : rightS l = false) : 0 = sizeN l ∧ 20 = sizeE l := by simp [sizeN, sizeE, h]
theorem size_yes {l : List Int} (h : rightS l = true) : prodI l = sizeN l ∧ 0 = sizeE l := by simp [sizeN, sizeE, h]

theorem prodI_pow {l : List Int} (h : allR 1 1024 l = true) : prodI l ≤ 1024 ^ l.length := by
  induction l with
  | nil => simp [prodI]
  | cons x l ih =>
    unfold allR at h; rw [List.all_cons, Bool.and_eq_true] at h
    have hx := inR_bounds h.1
    have hp := ih h.2
    have h1 := prodI_pos (l := l) (hi := 1024) h.2
    rw [prodI_cons, List.length_cons, Int.pow_succ, Int.mul_comm]
    exact Int.mul_le_mul hp hx.2 (by omega) (by omega)
theorem prodI_le {l : List Int} (h : allR 1 1024 l = true) (h4 : l.length ≤ 4) : prodI l ≤ 1099511627776 := by
  have h1 := prodI_pow h
  have : (1024 : Int) ^ l.length ≤ 1024 ^ 4 := by
    match l.length, h4 with
    | 0, _ => decide
    | 1, _ => decide
    | 2, _ => decide
    | 3, _ => decide
    | 4, _ => decide
  have e : (1024 : Int) ^ 4 = 1099511627776 := by decide
  omega
theorem allR_wide {lo hi hi' : Int} {l : List Int} (hh : hi ≤ hi') (h : allR lo hi l = true) : allR lo hi' l = true := by
  unfold allR at *
  rw [List.all_eq_true] at *
  intro x hx
  obtain ⟨a, b⟩ := inR_bounds (h x hx)
  exact inR_yes a (by omega)
theorem mul_shape {l : List Int} (h : allR 1 1024 l = true) (h4 : l.length ≤ 4) : mulN l = prodI l ∧ mulE l = 0 := by
  obtain ⟨a, b⟩ := mul_ok (allR_more (lo' := 0) (by omega) (allR_wide (hi' := 1099511627776) (by omega) h)) (prodI_le h h4)
  exact ⟨a.symm, b.symm⟩

/-- The same list. -/
def sameL (a b : List Int) : Bool := decide (a = b)
theorem sameL_len {a b : List Int} (h : a.length ≠ b.length) : false = sameL a b := by
  have : a ≠ b := fun e => h (by rw [e])
  simp [sameL, this]
theorem sameL_at {a b : List Int} (k : Nat) (h : a.getD k 0 ≠ b.getD k 0) : false = sameL a b := by
  have : a ≠ b := fun e => h (by rw [e])
  simp [sameL, this]
theorem sameL_full {a b : List Int} (k : Nat) (hl : a.length = b.length) (hk : a.length ≤ k) (h : a.take k = b.take k) : true = sameL a b := by
  rw [List.take_of_length_le hk, List.take_of_length_le (by omega)] at h
  simp [sameL, h]
theorem take_step {a b : List Int} (k : Nat) (hl : a.length = b.length) (hk : k < a.length) (h : a.take k = b.take k) (h' : a.getD k 0 = b.getD k 0) : a.take (k + 1) = b.take (k + 1) := by
  rw [List.take_add_one, List.take_add_one, h]
  have e1 : a[k]? = some (a.getD k 0) := by simp [List.getD, List.getElem?_eq_getElem hk]
  have e2 : b[k]? = some (b.getD k 0) := by simp [List.getD, List.getElem?_eq_getElem (show k < b.length by omega)]
  rw [e1, e2, h']
theorem sameL_self (a : List Int) : sameL a a = true := by simp [sameL]
theorem sameL_eq {a b : List Int} (h : sameL a b = true) : a = b := by simpa [sameL] using h


/-- Indices within their sides; the number of a place. -/
def inB (z : List (Int × Int)) : Bool := z.all fun q => decide (0 ≤ q.2) && decide (q.2 < q.1)
def numP (z : List (Int × Int)) : Int := z.foldl (fun p q => p * q.1 + q.2) 0
theorem zip_getElem? (s a : List Int) (k : Nat) (h1 : k < s.length) (h2 : k < a.length) : (s.zip a)[k]? = some (s.getD k 0, a.getD k 0) := by
  rw [List.getElem?_eq_getElem (by rw [List.length_zip]; omega), List.getElem_zip]
  simp [List.getD, List.getElem?_eq_getElem h1, List.getElem?_eq_getElem h2]
theorem inB_step (s a : List Int) (k : Nat) (h1 : k < s.length) (h2 : k < a.length) (h : inB ((s.zip a).take k) = true) (l : 0 ≤ a.getD k 0) (u : a.getD k 0 < s.getD k 0) : inB ((s.zip a).take (k + 1)) = true := by
  unfold inB at *
  rw [List.take_add_one, zip_getElem? s a k h1 h2, List.all_append, h]
  simp only [Option.toList_some, List.all_cons, List.all_nil, Bool.and_true, Bool.true_and, Bool.and_eq_true, decide_eq_true_eq]
  exact ⟨l, u⟩
theorem inB_stop (s a : List Int) (k : Nat) (h1 : k < s.length) (h2 : k < a.length) (l : ¬ (0 ≤ a.getD k 0 ∧ a.getD k 0 < s.getD k 0)) : inB (s.zip a) = false := by
  unfold inB
  rw [List.all_eq_false]
  refine ⟨(s.getD k 0, a.getD k 0), List.mem_of_getElem? (zip_getElem? s a k h1 h2), ?_⟩
  simp only [Bool.and_eq_true, decide_eq_true_eq]
  exact l
theorem numP_step (s a : List Int) (k : Nat) (h1 : k < s.length) (h2 : k < a.length) : numP ((s.zip a).take (k + 1)) = numP ((s.zip a).take k) * s.getD k 0 + a.getD k 0 := by
  unfold numP
  rw [List.take_add_one, zip_getElem? s a k h1 h2, List.foldl_append]
  rfl
theorem numP_append (z y : List (Int × Int)) : numP (z ++ y) = y.foldl (fun p q => p * q.1 + q.2) (numP z) := by unfold numP; rw [List.foldl_append]
theorem numP_take (s a : List Int) (hs : s.length = a.length) (hr : allR 1 1024 s = true) : ∀ k, k ≤ s.length → inB ((s.zip a).take k) = true → 0 ≤ numP ((s.zip a).take k) ∧ numP ((s.zip a).take k) < prodI (s.take k) := by
  intro k
  induction k with
  | zero => intro _ _; simp [numP, prodI]
  | succ k ih =>
    intro hk hb
    have hb' : inB ((s.zip a).take k) = true := by
      unfold inB at *
      rw [List.all_eq_true] at *
      intro x hx
      exact hb x (by rw [List.take_add_one]; exact List.mem_append_left _ hx)
    have hbk : 0 ≤ a.getD k 0 ∧ a.getD k 0 < s.getD k 0 := by
      unfold inB at hb
      rw [List.all_eq_true] at hb
      have := hb (s.getD k 0, a.getD k 0) (by rw [List.take_add_one, zip_getElem? s a k (by omega) (by omega)]; simp)
      simpa using this
    obtain ⟨i1, i2⟩ := ih (by omega) hb'
    obtain ⟨x1, x2⟩ := allR_getD hr k (by omega)
    rw [numP_step s a k (by omega) (by omega), prodI_step s k (by omega)]
    have m1 : numP ((s.zip a).take k) * s.getD k 0 ≤ (prodI (s.take k) - 1) * s.getD k 0 := Int.mul_le_mul (by omega) (Int.le_refl _) (by omega) (by omega)
    have m2 : 0 ≤ numP ((s.zip a).take k) * s.getD k 0 := Int.mul_nonneg i1 (by omega)
    rw [Int.sub_mul] at m1
    omega

/-- What Place tells: the number and the error. -/
def atOk (s a : List Int) : Bool := decide (s.length = a.length) && inB (s.zip a)
def placeN (s a : List Int) : Int := if rightS s = true ∧ atOk s a = true then numP (s.zip a) else 0
def placeE (s a : List Int) : Int := if rightS s = true then (if atOk s a = true then 0 else 11) else 20
theorem place_wrong {s a : List Int} (h : rightS s = false) : 0 = placeN s a ∧ 20 = placeE s a := by simp [placeN, placeE, h]
theorem place_none {s a : List Int} (h : rightS s = true) (h' : atOk s a = false) : 0 = placeN s a ∧ 11 = placeE s a := by simp [placeN, placeE, h, h']
theorem place_yes {s a : List Int} (h : rightS s = true) (h' : atOk s a = true) : numP (s.zip a) = placeN s a ∧ 0 = placeE s a := by simp [placeN, placeE, h, h']
theorem atOk_len {s a : List Int} (h : ¬ s.length = a.length) : atOk s a = false := by simp [atOk, h]
theorem atOk_bad {s a : List Int} (h : inB (s.zip a) = false) : atOk s a = false := by simp [atOk, h]
theorem atOk_yes {s a : List Int} (h : s.length = a.length) (h' : inB (s.zip a) = true) : atOk s a = true := by simp [atOk, h, h']
theorem take_zip_full {s a : List Int} (k : Nat) (hk : s.length ≤ k) : (s.zip a).take k = s.zip a := List.take_of_length_le (by rw [List.length_zip]; omega)
theorem numP_lt {s a : List Int} (h : rightS s = true) (h' : atOk s a = true) : 0 ≤ numP (s.zip a) ∧ numP (s.zip a) < prodI s := by
  have hl : s.length = a.length := by simp [atOk] at h'; exact h'.1
  have hb : inB (s.zip a) = true := by simp [atOk] at h'; exact h'.2
  have := numP_take s a hl (rightS_parts h).2.2.1 s.length (Nat.le_refl _) (by rw [take_zip_full _ (Nat.le_refl _)]; exact hb)
  rwa [take_zip_full _ (Nat.le_refl _), List.take_of_length_le (Nat.le_refl _)] at this
end Go.Proofs.Ytieegaojcjhfdaa

/-
  Contracts of package shape: the sides, Size, Right; and of its reference: Right, Size.
-/
namespace Go.Proofs.Ytieegaojcjhfdaa
open Go.RowKit
set_option linter.unusedVariables false
set_option linter.unusedSimpArgs false

set_option maxHeartbeats 400000 in
theorem isSide_any (n : Int) (w : World) :
    Calls Try.prog 47 #[.int .i64 n] w fun e w' => e = .returned (.bool (inR 1 1024 n)) ∧ w = w' := by
  by_cases c : 1 ≤ n
  · by_cases d : n ≤ 1024
    · have E := Lib.hid (inR_yes c d).symm
      go_enter Try.func47, Try.ntmps47
      go_wp2_with fail
      go_ret
      exact ⟨ret_bool E.out, rfl⟩
    · have E := Lib.hid (inR_high (lo := 1) d).symm
      go_enter Try.func47, Try.ntmps47
      go_wp2_with fail
      go_ret
      exact ⟨ret_bool E.out, rfl⟩
  · have E := Lib.hid (inR_low (hi := 1024) c).symm
    go_enter Try.func47, Try.ntmps47
    go_wp2_with fail
    go_ret
    exact ⟨ret_bool E.out, rfl⟩

set_option maxHeartbeats 1000000 in
theorem size_any (a : Option Addr) (len cap : Nat) (zs : List Int) (w : World) (h : IntsAt w a len zs) :
    Calls Try.prog 38 #[.slice a len cap] w fun e w' => e = .returned (.tuple #[.int .i64 (sizeN zs), .int .i64 (sizeE zs)]) ∧ Below w.heap.size w w' := by
  by_cases g0 : len < 1
  · have E := Lib.hid (size_no (rightS_short (l := zs) (by have := h.1; omega)))
    clear h
    go_enter Try.func38, Try.ntmps38
    go_wp2_with fail
    go_ret2
    exact ⟨ret_ints2 E.out.1 E.out.2, Below.refl _ _⟩
  by_cases g4 : 4 < len
  · have E := Lib.hid (size_no (rightS_long (l := zs) (by have := h.1; omega)))
    clear h
    go_enter Try.func38, Try.ntmps38
    go_wp2_with fail
    go_ret2
    exact ⟨ret_ints2 E.out.1 E.out.2, Below.refl _ _⟩
  have H := Lib.hid h
  obtain ⟨h1, h2, h3, h4⟩ := h
  have hl := Lib.hid h1
  go_enter Try.func38, Try.ntmps38
  go_wp2_with fail
  go_loop [18] (fun i => ∃ k : Nat, k ≤ len ∧ i = .int .i64 k ∧ Hid (allR 1 1024 (zs.take k) = true)) (fun i => len - (intOf i).toNat)
  case atStart => exact ⟨0, Nat.zero_le _, rfl, rfl⟩
  case round =>
    obtain ⟨k, hk, rfl, hall⟩ := hrel
    by_cases hlt : k < len
    · rcases h4 with h4 | ⟨b, off, rfl, hc⟩
      · omega
      · have hcell := hc k hlt
        clear hc
        have S := Lib.hid (allR_step 1 1024 zs k (by omega) hall.out)
        have T := Lib.hid (allR_stop 1 1024 zs k (by omega))
        generalize zs.getD k 0 = x at *
        clear h1 h3
        have C := Lib.hid (isSide_any x w)
        cases c : inR 1 1024 x
        · have C2 := C.out
          rw [c] at C2
          have C3 := Lib.hid C2
          have T2 := Lib.hid (size_no (rightS_side (T.out c).symm))
          clear C2 C T S c
          go_wp2_with fail
          refine C3.out.mono ?_
          rintro e w1 ⟨rfl, rfl⟩
          go_wp2_with fail
          go_ret2
          exact ⟨ret_ints2 T2.out.1 T2.out.2, Below.refl _ _⟩
        · have C2 := C.out
          rw [c] at C2
          have C3 := Lib.hid C2
          have T2 := Lib.hid (S.out c)
          clear C2 C T S c
          go_wp2_with fail
          refine C3.out.mono ?_
          rintro e w1 ⟨rfl, rfl⟩
          go_wp2_with fail
          go_round
          case rel => exact ⟨k + 1, by omega, by go_num, T2⟩
          case measure => (simp [intOf]; try omega)
    · have c' := Lib.hid (allR_full 1 1024 zs k (by omega) hall.out).symm
      clear hall h4
      have c0 := safemul_any a len cap zs w H.out
      obtain ⟨m1, m2⟩ := mul_shape c'.out (by omega)
      rw [m1, m2] at c0
      have M := Lib.hid c0
      clear m1 m2 c0
      by_cases big : 65536 < prodI zs
      · have E := Lib.hid (size_no (rightS_big big))
        generalize prodI zs = t at *
        clear h1 h3
        go_wp2_with fail
        refine M.out.mono ?_
        rintro e w1 ⟨rfl, hb⟩
        go_wp2_with fail
        go_ret2
        exact ⟨ret_ints2 E.out.1 E.out.2, hb⟩
      · have E := Lib.hid (size_yes (rightS_yes (l := zs) (by omega) (by omega) c'.out (by omega)))
        generalize prodI zs = t at *
        clear h1 h3
        go_wp2_with fail
        refine M.out.mono ?_
        rintro e w1 ⟨rfl, hb⟩
        go_wp2_with fail
        go_ret2
        exact ⟨ret_ints2 E.out.1 E.out.2, hb⟩

theorem sizeE_yes {l : List Int} (h : rightS l = true) : sizeE l = 0 := by simp [sizeE, h]
theorem sizeE_no {l : List Int} (h : rightS l = false) : sizeE l = 20 := by simp [sizeE, h]
theorem sizeN_yes {l : List Int} (h : rightS l = true) : sizeN l = prodI l := by simp [sizeN, h]
theorem sizeN_no {l : List Int} (h : rightS l = false) : sizeN l = 0 := by simp [sizeN, h]

set_option maxHeartbeats 400000 in
theorem rightM_any (a : Option Addr) (len cap : Nat) (zs : List Int) (w : World) (h : IntsAt w a len zs) :
    Calls Try.prog 39 #[.slice a len cap] w fun e w' => e = .returned (.bool (rightS zs)) ∧ Below w.heap.size w w' := by
  have c0 := size_any a len cap zs w h
  cases c : rightS zs
  · rw [sizeE_no c, sizeN_no c] at c0
    have C := Lib.hid c0
    clear c0 c h
    go_enter Try.func39, Try.ntmps39
    go_wp2_with fail
    refine C.out.mono ?_
    rintro e w1 ⟨rfl, hb⟩
    go_wp2_with fail
    go_ret
    exact ⟨rfl, hb⟩
  · rw [sizeE_yes c] at c0
    have C := Lib.hid c0
    generalize sizeN zs = t at *
    clear c0 c h
    go_enter Try.func39, Try.ntmps39
    go_wp2_with fail
    refine C.out.mono ?_
    rintro e w1 ⟨rfl, hb⟩
    go_wp2_with fail
    go_ret
    exact ⟨rfl, hb⟩

theorem pow_small (k : Nat) (h : k ≤ 3) : (1024 : Int) ^ k ≤ 1073741824 := by
  match k, h with
  | 0, _ => decide
  | 1, _ => decide
  | 2, _ => decide
  | 3, _ => decide

set_option maxHeartbeats 1000000 in
theorem refshape_any (a : Option Addr) (len cap : Nat) (zs : List Int) (w : World) (h : IntsAt w a len zs) :
    Calls Try.prog 21 #[.slice a len cap] w fun e w' => e = .returned (.bool (rightS zs)) ∧ w = w' := by
  by_cases g0 : len < 1
  · have E := Lib.hid (rightS_short (l := zs) (by have := h.1; omega)).symm
    clear h
    go_enter Try.func21, Try.ntmps21
    go_wp2_with fail
    go_ret
    exact ⟨ret_bool E.out, rfl⟩
  by_cases g4 : 4 < len
  · have E := Lib.hid (rightS_long (l := zs) (by have := h.1; omega)).symm
    clear h
    go_enter Try.func21, Try.ntmps21
    go_wp2_with fail
    go_ret
    exact ⟨ret_bool E.out, rfl⟩
  obtain ⟨h1, h2, h3, h4⟩ := h
  have hl := Lib.hid h1
  go_enter Try.func21, Try.ntmps21
  go_wp2_with fail
  go_loop [3, 4] (fun n i => ∃ k : Nat, k ≤ len ∧ i = .int .i64 k ∧ n = .int .i64 (prodI (zs.take k)) ∧ Hid (allR 1 1024 (zs.take k) = true)) (fun _ i => len - (intOf i).toNat)
  case atStart => exact ⟨0, Nat.zero_le _, rfl, rfl, rfl⟩
  case round =>
    obtain ⟨k, hk, rfl, rfl, hall⟩ := hrel
    by_cases hlt : k < len
    · rcases h4 with h4 | ⟨b, off, rfl, hc⟩
      · omega
      · have hcell := hc k hlt
        clear hc
        have S := Lib.hid (allR_step 1 1024 zs k (by omega) hall.out)
        have T := Lib.hid (allR_stop 1 1024 zs k (by omega))
        have P1 := prodI_pos hall.out
        have P2 := prodI_pow hall.out
        rw [List.length_take_of_le (by omega)] at P2
        have P3 := pow_small k (by omega)
        have hs := Lib.hid (prodI_step zs k (by omega))
        have B := h3.getD k
        generalize zs.getD k 0 = x at *
        generalize prodI (zs.take k) = t at *
        have t1 : t ≤ 1073741824 := by omega
        clear P2 P3 hall h1 h3
        by_cases c1 : x < 1
        · have T2 := Lib.hid (rightS_side (T.out (inR_low (by omega))).symm).symm
          clear T S
          go_wp2_with fail
          go_ret
          exact ⟨ret_bool T2.out, rfl⟩
        by_cases c2 : 1024 < x
        · have T2 := Lib.hid (rightS_side (T.out (inR_high (by omega))).symm).symm
          clear T S
          go_wp2_with fail
          go_ret
          exact ⟨ret_bool T2.out, rfl⟩
        · have S2 := Lib.hid (S.out (inR_yes (by omega) (by omega)))
          have q1 := Int.mul_le_mul t1 (show x ≤ 1024 by omega) (by omega) (by omega)
          have q2 := Int.mul_le_mul P1 (show 1 ≤ x by omega) (by omega) (by omega)
          have q3 : t * x ≤ 1099511627776 := by omega
          have q4 : 0 ≤ t * x := by omega
          clear T S q1 q2
          go_wp2_with fail
          go_round
          case rel => exact ⟨k + 1, by omega, by go_num, by rw [hs.out], S2⟩
          case measure => (simp [intOf]; try omega)
    · have c' := Lib.hid (allR_full 1 1024 zs k (by omega) hall.out).symm
      have e : zs.take k = zs := List.take_of_length_le (by omega)
      rw [e]
      clear hall h4 e
      by_cases big : 65536 < prodI zs
      · have E := Lib.hid (rightS_big big).symm
        generalize prodI zs = t at *
        clear h1 h3
        go_wp2_with fail
        go_ret
        exact ⟨ret_bool (by rw [decide_eq_false (by omega)]; exact E.out), rfl⟩
      · have E := Lib.hid (rightS_yes (l := zs) (by omega) (by omega) c'.out (by omega)).symm
        generalize prodI zs = t at *
        clear h1 h3
        go_wp2_with fail
        go_ret
        exact ⟨ret_bool E.out, rfl⟩

set_option maxHeartbeats 1000000 in
theorem refsize_any (a : Option Addr) (len cap : Nat) (zs : List Int) (w : World) (h : IntsAt w a len zs) (hr : rightS zs = true) :
    Calls Try.prog 22 #[.slice a len cap] w fun e w' => e = .returned (.int .i64 (prodI zs)) ∧ w = w' := by
  obtain ⟨r1, r2, r3', r4⟩ := rightS_parts hr
  have r3 := Lib.hid r3'
  clear hr r3'
  obtain ⟨h1, h2, h3, h4⟩ := h
  have hl := Lib.hid h1
  go_enter Try.func22, Try.ntmps22
  go_wp2_with fail
  go_loop [3, 4] (fun n i => ∃ k : Nat, k ≤ len ∧ i = .int .i64 k ∧ n = .int .i64 (prodI (zs.take k))) (fun _ i => len - (intOf i).toNat)
  case atStart => exact ⟨0, Nat.zero_le _, rfl, rfl⟩
  case round =>
    obtain ⟨k, hk, rfl, rfl⟩ := hrel
    by_cases hlt : k < len
    · rcases h4 with h4 | ⟨b, off, rfl, hc⟩
      · omega
      · have hcell := hc k hlt
        clear hc
        have P1 := prodI_pos (allR_take r3.out k)
        have P2 := prodI_take_le r3.out k
        have P3 := prodI_take_le r3.out (k + 1)
        have P4 := prodI_pos (allR_take r3.out (k + 1))
        have hs := prodI_step zs k (by omega)
        rw [hs] at P3 P4
        replace hs := Lib.hid hs
        obtain ⟨x1, x2⟩ := allR_getD r3.out k (by omega)
        generalize zs.getD k 0 = x at *
        generalize prodI (zs.take k) = t at *
        generalize prodI zs = T at *
        have q3 : t * x ≤ 65536 := by omega
        have q4 : 0 ≤ t * x := by omega
        clear P3 P4 h1 h3
        go_wp2_with fail
        go_round
        case rel => exact ⟨k + 1, by omega, by go_num, by rw [hs.out]⟩
        case measure => (simp [intOf]; try omega)
    · have e : zs.take k = zs := List.take_of_length_le (by omega)
      rw [e]
      obtain ⟨t, ht⟩ : ∃ t, prodI zs = t := ⟨_, rfl⟩
      rw [ht]
      replace ht := Lib.hid ht
      clear h1 h3 h4 e
      go_wp2_with fail
      go_ret
      exact ⟨ret_int ht.out.symm, rfl⟩
end Go.Proofs.Ytieegaojcjhfdaa

