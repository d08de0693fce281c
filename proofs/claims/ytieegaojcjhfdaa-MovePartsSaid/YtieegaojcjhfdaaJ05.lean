import Derived.Test.YtieegaojcjhfdaaJ00
import Derived.Test.YtieegaojcjhfdaaJ02
import Derived.Test.YtieegaojcjhfdaaJ03
import Derived.Test.YtieegaojcjhfdaaJ04
import Derived.Deep.RegionHeld3
import Derived.Deep.DeepCutAuto
import Derived.Deep.CutBlock
import Derived.Laws.AppendOwnNone
import Derived.Deep.AppendLies
/-
  Contracts over lists of tensors: cells, other.
-/
namespace Go.Proofs.Ytieegaojcjhfdaa
open Go.RowKit
set_option linter.unusedVariables false
set_option linter.unusedSimpArgs false

/-- The second input's cell at a place; 0 if there is none. -/
def otherN (ts : List TV) (k : Nat) : Int := match ts[1]? with
  | none => 0
  | some t => t.cs.getD k 0
theorem otherN_one {ts : List TV} {k : Nat} (h : ts.length < 2) : otherN ts k = 0 := by unfold otherN; rw [List.getElem?_eq_none (by omega)]
theorem otherN_two {ts : List TV} {k : Nat} {t : TV} (h : ts[1]? = some t) : otherN ts k = t.cs.getD k 0 := by unfold otherN; rw [h]

/-- The second input's cell, as the statements read it. -/
def otherM (ts : List TV) (k : Nat) : Int := match ts[1]? with
  | none => 0
  | some t => if k < t.cl then t.cs.getD k 0 else 0
theorem otherM_one {ts : List TV} {k : Nat} (h : ts.length < 2) : otherM ts k = 0 := by unfold otherM; rw [List.getElem?_eq_none (by omega)]
theorem otherM_two {ts : List TV} {k : Nat} {t : TV} (h : ts[1]? = some t) (hk : k < t.cl) : otherM ts k = t.cs.getD k 0 := by unfold otherM; rw [h]; exact if_pos hk
theorem otherM_far {ts : List TV} {k : Nat} {t : TV} (h : ts[1]? = some t) (hk : ¬ k < t.cl) : otherM ts k = 0 := by unfold otherM; rw [h]; exact if_neg hk
theorem otherM_eq {ts : List TV} {k : Nat} (h : ∀ t, ts[1]? = some t → k < t.cl) : otherM ts k = otherN ts k := by
  unfold otherM otherN
  cases e : ts[1]? with
  | none => rfl
  | some t => exact if_pos (h t e)

end Go.Proofs.Ytieegaojcjhfdaa
/-
  Contracts over lists of tensors: small, right.
-/
namespace Go.Proofs.Ytieegaojcjhfdaa
open Go.RowKit
set_option linter.unusedVariables false
set_option linter.unusedSimpArgs false

/-- What tensors weigh: each one, its sides, its cells. -/
def wts (ts : List TV) : Nat := (ts.map fun t => 1 + t.sl + t.cl).sum
theorem wts_take {ts : List TV} {k : Nat} {t : TV} (h : ts[k]? = some t) : wts (ts.take (k + 1)) = wts (ts.take k) + (1 + t.sl + t.cl) := by
  unfold wts; rw [List.take_add_one, h]; simp
theorem wts_part (ts : List TV) (k : Nat) : wts (ts.take k) ≤ wts ts := by
  have h : wts (ts.take k ++ ts.drop k) = wts (ts.take k) + wts (ts.drop k) := by unfold wts; rw [List.map_append, List.sum_append]
  rw [List.take_append_drop] at h
  omega
theorem wts_mem {ts : List TV} {t : TV} (h : t ∈ ts) : 1 + t.sl + t.cl ≤ wts ts := by
  unfold wts
  induction ts with
  | nil => cases h
  | cons x r ih =>
    rw [List.map_cons, List.sum_cons]
    rcases List.mem_cons.1 h with rfl | h
    · omega
    · have := ih h; omega
theorem wts_len (ts : List TV) : ts.length ≤ wts ts := by
  induction ts with
  | nil => simp [wts]
  | cons x r ih => unfold wts at ih ⊢; rw [List.map_cons, List.sum_cons, List.length_cons]; omega
/-- May tensors be gone through? -/
def smallG (ts : List TV) : Bool := decide (wts ts ≤ 800)

end Go.Proofs.Ytieegaojcjhfdaa
/-
  Regions that draw their order: operations that a guard leaves out, one after another.
-/
namespace Go.Proofs.Ytieegaojcjhfdaa
open Go.RowKit
set_option linter.unusedVariables false
set_option linter.unusedSimpArgs false
section
variable {P : Program} {md : Region.Mode} {ops : Array Oper} {Q : Exit → Act → World → Prop} {S : World → Prop}
/-- An operation that its guard leaves out comes up first. -/
theorem held_skip (i : Nat) {oi : Oper} {fuel : Nat} {listed : Array Bool} {a : Act} {w : World} (hi : ops.toList[i]? = some oi)
    (hs : Region.noSelect ops = true) (hf : Region.free md ops listed i = true) (hr : (Region.ready md ops listed).contains i = true)
    (hQ : ∀ c a w, Q (.panic c) (a.put oi.dst undef) w → Q (.panic c) a w) (hw : Region.wanted oi (yielded ops a.tmps) = false) (hS : S w)
    (h : wpAnyH P md ops Q S fuel (listed.setIfInBounds i true) (a.put oi.dst undef) w) : wpAnyH P md ops Q S (fuel + 1) listed a w :=
  wpAnyH_take (by rw [← Array.getElem?_toList]; exact hi) hs hf hr hQ (Or.inr ⟨hw, rfl⟩) hS h
/-- An operation that yields in every world comes up first. -/
theorem held_take (i : Nat) (v : Value) {oi : Oper} {fuel : Nat} {listed : Array Bool} {a : Act} {w : World} (hi : ops.toList[i]? = some oi)
    (hs : Region.noSelect ops = true) (hf : Region.free md ops listed i = true) (hr : (Region.ready md ops listed).contains i = true)
    (hQ : ∀ c a w, Q (.panic c) (a.put oi.dst v) w → Q (.panic c) a w) (hw : Region.wanted oi (yielded ops a.tmps) = true) (hv : ∀ w, S w → (execOp a.eval oi).run P w = .ok (.value v) w) (hS : S w)
    (h : wpAnyH P md ops Q S fuel (listed.setIfInBounds i true) (a.put oi.dst v) w) : wpAnyH P md ops Q S (fuel + 1) listed a w :=
  wpAnyH_take (by rw [← Array.getElem?_toList]; exact hi) hs hf hr hQ (Or.inl ⟨hw, hv⟩) hS h
/-- The one operation that may come up, carried out. -/
theorem held_call (i : Nat) {o : Oper} {fuel : Nat} {listed : Array Bool} {a : Act} {w : World} (hr : Region.ready md ops listed = [i]) (ho : ops.toList[i]? = some o) (hw : Region.wanted o (yielded ops a.tmps) = true)
    (h : ∀ K' : Act → World → Prop, Shut (∀ a w, S w → (S w → wpAnyH P md ops Q S fuel (listed.setIfInBounds i true) a w) → K' a w) → Oper.wp P o a w K' Q) : wpAnyH P md ops Q S (fuel + 1) listed a w :=
  wpAnyH_ready hr (by simp) (AllReadyH.cons (by rw [← Array.getElem?_toList]; exact ho) (fun K hK => by rw [if_pos hw]; exact h K hK) AllReadyH.nil)
/-- The one operation that may come up is left out by its guard (a call: 'held_skip' does not serve it). -/
theorem held_left (i : Nat) {o : Oper} {fuel : Nat} {listed : Array Bool} {a : Act} {w : World} (hr : Region.ready md ops listed = [i]) (ho : ops.toList[i]? = some o) (hw : Region.wanted o (yielded ops a.tmps) = false) (hS : S w)
    (h : wpAnyH P md ops Q S fuel (listed.setIfInBounds i true) (a.put o.dst undef) w) : wpAnyH P md ops Q S (fuel + 1) listed a w :=
  wpAnyH_ready hr (by simp) (AllReadyH.cons (by rw [← Array.getElem?_toList]; exact ho) (fun K hK => by rw [hw, if_neg (by decide)]; exact hK.out _ _ hS (fun _ => h)) AllReadyH.nil)
/-- Two operations may come up. -/
theorem held_two (i j : Nat) {o1 o2 : Oper} {fuel : Nat} {listed : Array Bool} {a : Act} {w : World} (hr : Region.ready md ops listed = [i, j]) (h1 : ops.toList[i]? = some o1) (h2 : ops.toList[j]? = some o2)
    (hw1 : Region.wanted o1 (yielded ops a.tmps) = true) (hw2 : Region.wanted o2 (yielded ops a.tmps) = true)
    (H1 : ∀ K' : Act → World → Prop, Shut (∀ a w, S w → (S w → wpAnyH P md ops Q S fuel (listed.setIfInBounds i true) a w) → K' a w) → Oper.wp P o1 a w K' Q)
    (H2 : ∀ K' : Act → World → Prop, Shut (∀ a w, S w → (S w → wpAnyH P md ops Q S fuel (listed.setIfInBounds j true) a w) → K' a w) → Oper.wp P o2 a w K' Q) : wpAnyH P md ops Q S (fuel + 1) listed a w :=
  wpAnyH_ready hr (by simp) (AllReadyH.cons (by rw [← Array.getElem?_toList]; exact h1) (fun K hK => by rw [if_pos hw1]; exact H1 K hK) (AllReadyH.cons (by rw [← Array.getElem?_toList]; exact h2) (fun K hK => by rw [if_pos hw2]; exact H2 K hK) AllReadyH.nil))
end
end Go.Proofs.Ytieegaojcjhfdaa

/-
  Contracts over lists of tensors: fault.
-/
namespace Go.Proofs.Ytieegaojcjhfdaa
open Go.RowKit
set_option linter.unusedVariables false
set_option linter.unusedSimpArgs false

/-- A tensor is valid and has this shape. -/
def okT (s0 : List Int) (t : TV) : Bool := rightT t.ss t.cl && sameL t.ss s0
def shape0 (ts : List TV) : List Int := match ts with
  | [] => []
  | t :: _ => t.ss
theorem shape0_at {ts : List TV} {t : TV} (h : ts[0]? = some t) : shape0 ts = t.ss := by
  cases ts with
  | nil => simp at h
  | cons x r => simp at h; subst h; rfl
/-- All are valid and have one shape. -/
def okTs (ts : List TV) : Bool := ts.all (okT (shape0 ts))
def faultE (kind : Int) (ts : List TV) : Int := if insN kind = 0 then 21 else if (ts.length : Int) = insN kind then (if okTs ts = true then 0 else 20) else 20
theorem faultE_op {kind : Int} {ts : List TV} (h : insN kind = 0) : faultE kind ts = 21 := by unfold faultE; rw [if_pos h]
theorem faultE_len {kind : Int} {ts : List TV} (h : ¬ insN kind = 0) (h' : ¬ (ts.length : Int) = insN kind) : faultE kind ts = 20 := by unfold faultE; rw [if_neg h, if_neg h']
theorem faultE_ok {kind : Int} {ts : List TV} (h : ¬ insN kind = 0) (h' : (ts.length : Int) = insN kind) (h2 : okTs ts = true) : faultE kind ts = 0 := by unfold faultE; rw [if_neg h, if_pos h', if_pos h2]
theorem faultE_no {kind : Int} {ts : List TV} (h : ¬ insN kind = 0) (h' : (ts.length : Int) = insN kind) (h2 : okTs ts = false) : faultE kind ts = 20 := by unfold faultE; rw [if_neg h, if_pos h', h2, if_neg (by decide)]
theorem okTs_bad {ts : List TV} {k : Nat} {t : TV} (h : ts[k]? = some t) (h2 : okT (shape0 ts) t = false) : okTs ts = false := by
  unfold okTs
  rw [Bool.eq_false_iff]
  intro h3
  have := List.all_eq_true.1 h3 t (List.mem_of_getElem? h)
  rw [this] at h2
  cases h2
def okN (ts : List TV) (k : Nat) : Prop := (ts.take k).all (okT (shape0 ts)) = true
theorem okN_zero (ts : List TV) : okN ts 0 := by unfold okN; simp
theorem okN_step {ts : List TV} {k : Nat} {t : TV} (h : okN ts k) (ht : ts[k]? = some t) (h2 : okT (shape0 ts) t = true) : okN ts (k + 1) := by
  unfold okN at *; rw [List.take_add_one, ht]; simp [h, h2]
theorem okN_full {ts : List TV} {k : Nat} (h : okN ts k) (hk : ts.length ≤ k) : okTs ts = true := by
  unfold okN at h; rw [List.take_of_length_le hk] at h; exact h

end Go.Proofs.Ytieegaojcjhfdaa
/-
  The contract of package point's Go.
-/
namespace Go.Proofs.Ytieegaojcjhfdaa
open Go.RowKit
set_option linter.unusedVariables false
set_option linter.unusedSimpArgs false

theorem rightT_pos5 {ss : List Int} {n : Nat} (h : rightT ss n = true) : 0 < n := by
  obtain ⟨h1, h2⟩ := rightT_parts h
  have := prodI_pos (rightS_parts h1).2.2.1
  omega
theorem rightT_side {ss : List Int} {n : Nat} (h : rightT ss n = true) : ss.length ≤ 4 := (rightS_parts (rightT_parts h).1).2.1
/-- What goes for good inputs. -/
theorem fault_good {kind : Int} {ts : List TV} (h : faultE kind ts = 0) : ¬ insN kind = 0 ∧ (ts.length : Int) = insN kind ∧ okTs ts = true := by
  unfold faultE at h
  by_cases h1 : insN kind = 0
  · rw [if_pos h1] at h; omega
  · rw [if_neg h1] at h
    by_cases h2 : (ts.length : Int) = insN kind
    · rw [if_pos h2] at h
      by_cases h3 : okTs ts = true
      · exact ⟨h1, h2, h3⟩
      · rw [if_neg h3] at h; omega
    · rw [if_neg h2] at h; omega
theorem okTs_at {ts : List TV} (h : okTs ts = true) {j : Nat} {t : TV} (ht : ts[j]? = some t) : rightT t.ss t.cl = true ∧ t.ss = shape0 ts := by
  have h1 := List.all_eq_true.1 h t (List.mem_of_getElem? ht)
  unfold okT at h1
  rw [Bool.and_eq_true] at h1
  exact ⟨h1.1, by simpa [sameL] using h1.2⟩
theorem okTs_len {ts : List TV} (h : okTs ts = true) {j : Nat} {t t0 : TV} (h0 : ts[0]? = some t0) (ht : ts[j]? = some t) : t.cl = t0.cl := by
  obtain ⟨a1, a2⟩ := okTs_at h h0
  obtain ⟨b1, b2⟩ := okTs_at h ht
  have := (rightT_parts a1).2
  have := (rightT_parts b1).2
  rw [a2] at *
  rw [b2] at *
  omega

/-- The output's cells. -/
def goL (kind k : Int) (cs : List Int) (ts : List TV) : List Int := cs.mapIdx fun j x => pcell kind k x (otherN ts j)
theorem goL_length (kind k : Int) (cs : List Int) (ts : List TV) : (goL kind k cs ts).length = cs.length := by simp [goL]
theorem goL_get {kind k : Int} {cs : List Int} {ts : List TV} {j : Nat} (h : j < cs.length) : (goL kind k cs ts).getD j 0 = pcell kind k (cs.getD j 0) (otherN ts j) := by
  simp [goL, List.getD, List.getElem?_eq_getElem h]
theorem goL_fits {kind k : Int} {cs : List Int} {ts : List TV} (h : Fits cs) : Fits (goL kind k cs ts) := by
  intro n hn
  unfold goL at hn
  obtain ⟨j, hj, rfl⟩ := List.mem_mapIdx.1 hn
  exact pcell_bounds (h _ (List.getElem_mem _)).1 (h _ (List.getElem_mem _)).2
theorem otherN_bounds {w : World} {a : Option Addr} {len : Nat} {ts : List TV} (h : GsAt w a len ts) (j : Nat) : -9223372036854775808 ≤ otherN ts j ∧ otherN ts j ≤ 9223372036854775807 := by
  unfold otherN
  cases e : ts[1]? with
  | none => simp
  | some t => exact (h.2.2.1 t (List.mem_of_getElem? e)).2.1.2.2.1.getD j

end Go.Proofs.Ytieegaojcjhfdaa
/-
  The contract of package point's Back.
-/
namespace Go.Proofs.Ytieegaojcjhfdaa
open Go.RowKit
set_option linter.unusedVariables false
set_option linter.unusedSimpArgs false

/-- The gradients' cells. -/
def bxL (kind k : Int) (xs : List Int) (ts : List TV) (gs : List Int) : List Int := gs.mapIdx fun j g => pslx kind k (xs.getD j 0) (otherN ts j) g
def byL (kind : Int) (xs : List Int) (gs : List Int) : List Int := gs.mapIdx fun j g => psly kind (xs.getD j 0) g
theorem bxL_length (kind k : Int) (xs : List Int) (ts : List TV) (gs : List Int) : (bxL kind k xs ts gs).length = gs.length := by simp [bxL]
theorem byL_length (kind : Int) (xs gs : List Int) : (byL kind xs gs).length = gs.length := by simp [byL]
theorem bxL_get {kind k : Int} {xs : List Int} {ts : List TV} {gs : List Int} {j : Nat} (h : j < gs.length) : (bxL kind k xs ts gs).getD j 0 = pslx kind k (xs.getD j 0) (otherN ts j) (gs.getD j 0) := by
  simp [bxL, List.getD, List.getElem?_eq_getElem h]
theorem byL_get {kind : Int} {xs gs : List Int} {j : Nat} (h : j < gs.length) : (byL kind xs gs).getD j 0 = psly kind (xs.getD j 0) (gs.getD j 0) := by
  simp [byL, List.getD, List.getElem?_eq_getElem h]
theorem bxL_fits {kind k : Int} {xs : List Int} {ts : List TV} {gs : List Int} (h : Fits gs) : Fits (bxL kind k xs ts gs) := by
  intro n hn
  unfold bxL at hn
  obtain ⟨j, hj, rfl⟩ := List.mem_mapIdx.1 hn
  exact pslx_bounds (h _ (List.getElem_mem _)).1 (h _ (List.getElem_mem _)).2
theorem byL_fits {kind : Int} {xs gs : List Int} (h : Fits gs) : Fits (byL kind xs gs) := by
  intro n hn
  unfold byL at hn
  obtain ⟨j, hj, rfl⟩ := List.mem_mapIdx.1 hn
  exact psly_bounds (h _ (List.getElem_mem _)).1 (h _ (List.getElem_mem _)).2
/-- The lists of cells that go back. -/
def backR (kind k : Int) (xs : List Int) (ts : List TV) (gs : List Int) : List (List Int) := if insN kind = 1 then [bxL kind k xs ts gs] else [bxL kind k xs ts gs, byL kind xs gs]

/-- No list and this error. -/
def NilG (w : World) (x : Int) (e : Ending) (w' : World) : Prop := e = .returned (.tuple #[.slice none 0 0, .int .i64 x]) ∧ Below w.heap.size w w'
/-- A new list of new tensors of one shape, and no error. -/
def OkG (w : World) (sl : Nat) (ss : List Int) (cl : Nat) (rs : List (List Int)) (e : Ending) (w' : World) : Prop :=
  ∃ (M n : Nat) (us : List TV), e = .returned (.tuple #[.slice (some ⟨M, 0, none⟩) n n, .int .i64 0]) ∧ us.map TV.cs = rs ∧ us.length = n ∧ (∀ u ∈ us, u.sl = sl ∧ u.ss = ss ∧ u.cl = cl) ∧ w.heap.size ≤ M ∧
    w'.ownsRow M 29 2 (.slice (some ⟨M, 0, none⟩) n n) n (gcells us) ∧ Many w' (M + 1) us ∧ Below w.heap.size w w'

theorem gridInfo : (Try.prog.info? 29).map (fun i => (i.zero, i.size, i.bytes)) = some (some (.agg #[.slice none 0 0, .slice none 0 0]), 2, 48) := by kernel_rfl
theorem toList_madeCells_two (z : Value) (n : Nat) : (madeCells #[z, z] n).toList = List.replicate n z := by
  apply List.ext_getElem?
  intro j
  by_cases hj : j < n
  · have : j % 2 = 0 ∨ j % 2 = 1 := by omega
    rcases this with h | h <;> simp [madeCells, hj, h]
  · simp [madeCells, hj]
theorem g_made (len : Nat) (hl : len ≤ 1000) : ∀ w, (Instr.makeSlice 22 (.int .i64 len) (.int .i64 len)).run Try.prog w = .ok (.slice (some ⟨w.heap.size, 0, none⟩) len len) (w.alloc (.cells (madeCells #[nilS, nilS] (len * 2)) 29)) := by
  intro w
  obtain ⟨i0, hi, hz0, hz1, hz2⟩ := info_parts gridInfo
  have := run_make (P := Try.prog) w 22 29 i0 _ Try.underlying22 hi hz0 .i64 .i64 len len (by omega) (by omega) (by rw [hz2]; omega) (by omega)
  rw [this, hz1]
  simp [Value.cells, nilS]
theorem g_made_row (w : World) (len : Nat) (hl : len ≤ 1000) : (w.alloc (.cells (madeCells #[nilS, nilS] (len * 2)) 29)).ownsRow w.heap.size 29 2 (.slice (some ⟨w.heap.size, 0, none⟩) len len) len (gpart [] len) := by
  have := World.ownsRow_lit w (base := w.heap.size) (e := 29) (size := 2) (madeCells #[nilS, nilS] (len * 2)) len (Nat.le_refl _) (by unfold maxLen; omega) (by rw [size_madeCells])
  rw [toList_madeCells_two] at this
  rw [gpart_nil]
  exact this

end Go.Proofs.Ytieegaojcjhfdaa
/-
  Two new slices of integers, one behind the other.
-/
namespace Go.Proofs.Ytieegaojcjhfdaa
open Go.RowKit
set_option linter.unusedVariables false
set_option linter.unusedSimpArgs false

/-- Two new slices of integers, one behind the other. -/
theorem rows_made5 (W : World) (t t' : TypeId) (xs ys : List Int) (n m : Nat) (hn : xs.length = n) (hm : ys.length = m) (h1 : n ≤ 1000) (h2 : m ≤ 1000) (f1 : Fits xs) (f2 : Fits ys) :
    ∃ W2, Hid ((W.alloc (.cells (xs.map (Value.int .i64)).toArray t)).alloc (.cells (ys.map (Value.int .i64)).toArray t') = W2) ∧ Hid (IntsAt W2 (some ⟨W.heap.size, 0, none⟩) n xs) ∧ Hid (IntsAt W2 (some ⟨W.heap.size + 1, 0, none⟩) m ys) ∧ Hid (Below W.heap.size W W2) := by
  refine ⟨_, Lib.hid rfl, Lib.hid ((IntsAt.made W t xs n hn (by omega) f1).kept ((Below.refl _ _).alloc (Nat.le_refl _) _)), Lib.hid ?_, Lib.hid (((Below.refl _ _).alloc (Nat.le_refl _) _).alloc (by simp) _)⟩
  have := IntsAt.made (W.alloc (.cells (xs.map (Value.int .i64)).toArray t)) t' ys m hm (by omega) f2
  simpa using this
theorem fits_few {l : List Int} (h : allR (-100) 100 l = true) : Fits l := by
  intro n hn
  unfold allR at h
  rw [List.all_eq_true] at h
  have := inR_bounds (h n hn)
  omega
end Go.Proofs.Ytieegaojcjhfdaa

/-
  The fixed answer of the statements of layer 5: the program gives it.
-/
namespace Go.Proofs.Ytieegaojcjhfdaa
open Go.RowKit
set_option linter.unusedVariables false
set_option linter.unusedSimpArgs false

/-- A new slice of one tensor. -/
theorem gs_made1 (W : World) (t : TV) (h : t.At W) :
    ∃ W2, Hid (W.alloc (.cells #[.slice t.sa t.sl t.sc, .slice t.ca t.cl t.cc] 29) = W2) ∧ Hid (GsAt W2 (some ⟨W.heap.size, 0, none⟩) 1 [t]) ∧ Hid (Below W.heap.size W W2) := by
  have hb : Below W.heap.size W (W.alloc (.cells #[.slice t.sa t.sl t.sc, .slice t.ca t.cl t.cc] 29)) := (Below.refl _ _).alloc (Nat.le_refl _) _
  refine ⟨_, Lib.hid rfl, Lib.hid ⟨rfl, by omega, ?_, .inr ⟨W.heap.size, 0, rfl, ?_⟩⟩, Lib.hid hb⟩
  · intro u hu
    rw [List.mem_singleton] at hu
    subst hu
    exact h.kept hb
  · intro j u hj
    match j, hj with
    | 0, hj =>
      simp at hj
      subst hj
      rw [World.cell?_alloc_new, World.cell?_alloc_new]
      exact ⟨rfl, rfl⟩
theorem goL_one {kind k : Int} {cs : List Int} {ts : List TV} (h : ts.length < 2) : goL kind k cs ts = cs.map fun x => pcell kind k x 0 := by
  exact List.ext_getElem (by simp [goL]) (fun i h1 h2 => by simp [goL, otherN_one h])
theorem bxL_one {kind k : Int} {xs gs : List Int} {ts : List TV} (h : ts.length < 2) : bxL kind k xs ts gs = gs.mapIdx fun j g => pslx kind k (xs.getD j 0) 0 g := by
  unfold bxL
  simp [otherN_one h]
theorem fault_two (kind : Int) (hk : insN kind = 1) (A A' : Option Addr) (k k' : Nat) (cs : List Int) : faultE kind [⟨A, 1, k, [2], A', 2, k', cs⟩] = 0 := by
  refine faultE_ok (by rw [hk]; decide) (by rw [hk]; rfl) ?_
  have : okT [2] ⟨A, 1, k, [2], A', 2, k', cs⟩ = true := by
    unfold okT
    show (rightT [2] 2 && sameL [2] [2]) = true
    decide +kernel
  unfold okTs
  simp [shape0, this]

end Go.Proofs.Ytieegaojcjhfdaa
/-
  The argument of the statements on gradients: a struct of a kind, its number, inputs and a gradient; appends of tensors.
-/
namespace Go.Proofs.Ytieegaojcjhfdaa
open Go.RowKit Go.ChangeShapes Go.WideShapes Go.Deep
set_option linter.unusedVariables false
set_option linter.unusedSimpArgs false

section
variable {w w' : World} {B : Nat} {a b c d e : Value}
end
theorem bcellsI : Try.prog.cellsOf 3 = 1 := by kernel_rfl
theorem bcellsK : Try.prog.cellsOf 35 = 1 := by kernel_rfl
theorem bcellsL : Try.prog.cellsOf 22 = 1 := by kernel_rfl
section
variable {H : Type} {enc : TypeId × Value → H} {w : World} {base : Nat} {spare : Nat → Bool} {held : Bool}
/-- A slice of tensors, opened, with what the reach gives. -/
theorem grids_cell2 {fuel : Nat} {c : Value} {x : DataW H × List MemPlace} (h : DataW.trod enc Try.prog w base spare held fuel 22 [c] = some x) (hw : ∀ n ∈ x.1.weights Try.prog 22, n ≤ reachBytes) :
    ∃ a len cap ts, c = .slice a len cap ∧ GsAt w a len ts ∧ len ≤ 2932031007317 ∧ (a = none → len = 0 ∧ cap = 0) := by
  obtain ⟨a, len, cap, ts, rfl, hg⟩ := grids_cell h hw
  refine ⟨a, len, cap, ts, rfl, hg, ?_⟩
  rcases open_slice Try.underlying22 h with ⟨hcs, -⟩ | ⟨a', len', cap', m, n, D, Pl, hcs, hb, hl, hm, hmm, rfl, hx⟩
  · have := (List.cons.inj hcs).1
    simp only [Value.slice.injEq] at this
    obtain ⟨rfl, rfl, rfl⟩ := this
    exact ⟨by omega, fun _ => ⟨rfl, rfl⟩⟩
  · have := (List.cons.inj hcs).1
    simp only [Value.slice.injEq] at this
    obtain ⟨rfl, rfl, rfl⟩ := this
    have hlm : len ≤ m := by rw [hmm]; split <;> omega
    have hw1 := hw (m * 48) (by
      simp only [DataW.weights, Try.underlying22, List.mem_cons, gbytesG]
      refine .inl ?_
      simp
      omega)
    have hr : reachBytes = 140737488351232 := by decide
    rw [hr] at hw1
    exact ⟨by omega, fun e => by cases e⟩

end
theorem gsat_of2 {w : World} {B g : Nat} {len cap : Nat} {ts : List TV} (h : w.ownsRow B 29 2 (.slice (some ⟨g, 0, none⟩) len cap) len (gcells ts)) (hl : len ≤ 2932031007402) (hm : ∀ t ∈ ts, t.At w) : GsAt w (some ⟨g, 0, none⟩) len ts := by
  have hlen : ts.length = len := by have := h.1; rw [gcells_length] at this; omega
  refine ⟨hlen, hl, hm, .inr ⟨g, 0, rfl, fun j t hj => ?_⟩⟩
  have hjl : j < ts.length := (List.getElem?_eq_some_iff.1 hj).1
  rw [Nat.zero_add, h.cellAt (j * 2) (by omega), h.cellAt (j * 2 + 1) (by omega)]
  exact gcells_get hj
theorem gs1_over {w w' : World} {t : TV} {b : Nat} (h : GsAt w (some ⟨b, 0, none⟩) 1 [t]) (hb : w'.heap[b]? = w.heap[b]?) (hA : t.At w') : GsAt w' (some ⟨b, 0, none⟩) 1 [t] := by
  refine ⟨rfl, by omega, fun u hu => by rw [List.mem_singleton] at hu; subst hu; exact hA, ?_⟩
  rcases h.2.2.2 with h4 | ⟨b', off, ha, hc⟩
  · omega
  · cases ha
    refine .inr ⟨b, 0, rfl, fun j u hj => ?_⟩
    obtain ⟨k1, k2⟩ := hc j u hj
    rw [World.cell?_of_block (w := w) (w' := w') (a := ⟨b, 0 + j * 2, none⟩) hb, World.cell?_of_block (w := w) (w' := w') (a := ⟨b, 0 + j * 2 + 1, none⟩) hb]
    exact ⟨k1, k2⟩
theorem gs1_lt {w : World} {t : TV} {b : Nat} (h : GsAt w (some ⟨b, 0, none⟩) 1 [t]) : b < w.heap.size := by
  rcases h.2.2.2 with h4 | ⟨b', off, ha, hc⟩
  · omega
  · cases ha
    exact World.block_lt_of_cell? w _ (hc 0 t rfl).1
theorem gs_at0 {w : World} {M n : Nat} {us : List TV} (h : GsAt w (some ⟨M, 0, none⟩) n us) {j : Nat} (hj : j < n) :
    ∃ u, us[j]? = some u ∧ w.cell? ⟨M, j * 2, none⟩ = some (.slice u.sa u.sl u.sc) ∧ w.cell? ⟨M, j * 2 + 1, none⟩ = some (.slice u.ca u.cl u.cc) ∧ u.At w := by
  obtain ⟨u, b, off, hu, e, d0, d1, hA⟩ := h.at hj
  cases e
  rw [Nat.zero_add] at d0 d1
  exact ⟨u, hu, d0, d1, hA⟩
section
variable {w : World}
/-- The builtin append of tensors to a row of one's own. -/
theorem wp_append_gs {o : Oper} {a : Act} {K : Act → World → Prop} {Q : Exit → Act → World → Prop} (s x : Operand)
    (ho : o.op = .call { callee := .builtin .append, args := #[s, x], argTypes := #[22, 22] })
    (B : Nat) (v : Value) (n : Nat) (us : List TV) (hs : a.eval s = v) (hown : w.ownsRow B 29 2 v n (gcells us))
    (av : Option Addr) (m c : Nat) (ts : List TV) (hx : a.eval x = .slice av m c) (hG : GsAt w av m ts) (hn : av = none → m = 0 ∧ c = 0) (hb : n + m ≤ 2932031007402) (hbase : B ≤ w.heap.size)
    (h : ∀ v' w', w'.ownsRow B 29 2 v' (n + m) (gcells (us ++ ts)) → w.grownBy w' v.ownBlock → K (a.put o.dst v') w') : o.wp Try.prog a w K Q := by
  obtain ⟨i0, hi, hz0, hz1, hz2⟩ := info_parts gridInfo
  cases av with
  | none =>
    obtain ⟨rfl, rfl⟩ := hn rfl
    have e1 : ts = [] := List.length_eq_zero_iff.1 hG.1
    subst e1
    have hrun := run_append_owned_none (P := Try.prog) (w := w) B 22 o.type 29 i0 2 Try.underlying22 hi v n (gcells us) hown
    unfold Oper.wp
    simp [execOp, ho, resolve, invoke, builtin, hs, hx, hrun, Result.andThen]
    exact h v w (by rw [List.append_nil]; exact hown) ⟨rfl, rfl, rfl, Nat.le_refl _, fun _ _ _ => rfl⟩
  | some ad =>
    refine wp_append_own w s x 22 ho B 29 i0 (.agg #[.slice none 0 0, .slice none 0 0]) 2 48 Try.underlying22 hi hz0 hz1 hz2 rfl (by decide) v n (gcells us) hs hown ad m c (gcells ts) hx (by rw [gcells_length, hG.1]) ?_ ?_ (by unfold maxLen; omega) (by omega) hbase ?_
    · intro j u hj
      have hjl : j < ts.length * 2 := by rw [← gcells_length]; exact (List.getElem?_eq_some_iff.1 hj).1
      rcases hG.2.2.2 with h4 | ⟨b, off, ha, hc⟩
      · have := hG.1; omega
      · cases ha
        obtain ⟨t, ht⟩ : ∃ t, ts[j / 2]? = some t := ⟨_, List.getElem?_eq_getElem (by omega)⟩
        obtain ⟨e1, e2⟩ := gcells_get ht
        obtain ⟨k1, k2⟩ := hc _ _ ht
        rw [add_plain]
        have : j = j / 2 * 2 ∨ j = j / 2 * 2 + 1 := by omega
        rcases this with e | e
        · rw [e] at hj ⊢
          rw [e1] at hj
          cases hj
          exact k1
        · rw [e] at hj ⊢
          rw [e2] at hj
          cases hj
          rw [← Nat.add_assoc]
          exact k2
    · intro u hu
      have : ∀ (l : List TV), u ∈ gcells l → u.oneCell' = true := by
        intro l
        induction l with
        | nil => intro h; cases h
        | cons t r ih =>
          intro h
          simp only [gcells, List.mem_cons] at h
          rcases h with rfl | rfl | h
          · rfl
          · rfl
          · exact ih h
      exact this ts hu
    · intro v' w' h1 h2 _
      exact h v' w' (by rw [gcells_append]; exact h1) h2
end

end Go.Proofs.Ytieegaojcjhfdaa

/-
  Rows of tensors that are under way; the contract of package move's JoinBack.
-/
namespace Go.Proofs.Ytieegaojcjhfdaa
open Go.RowKit
set_option linter.unusedVariables false
set_option linter.unusedSimpArgs false

/-- A row of one's own of tensors whose rows lie apart from it. -/
structure Parts (B : Nat) (w : World) (v : Value) (n : Nat) (us : List TV) : Prop where
  row : w.ownsRow B 29 2 v n (gcells us)
  good : ∀ u ∈ us, Good u w
  low : ∀ u ∈ us, ∀ b ∈ tblocks u, b < w.heap.size ∧ v.ownBlock ≠ some b
theorem Parts.nil (B : Nat) (w : World) : Parts B w (.slice none 0 0) 0 [] := ⟨World.ownsRow_nil _ _ _ _, fun t ht => (List.not_mem_nil ht).elim, fun t ht => (List.not_mem_nil ht).elim⟩
theorem Parts.kept {B n : Nat} {w w' : World} {v : Value} {us : List TV} (h : Parts B w v n us) (hb : Below w.heap.size w w') : Parts B w' v n us :=
  ⟨row_kept h.row hb, fun u hu => (h.good u hu).kept hb, fun u hu b hbm => ⟨Nat.lt_of_lt_of_le (h.low u hu b hbm).1 hb.size, (h.low u hu b hbm).2⟩⟩
theorem Parts.len {B n : Nat} {w : World} {v : Value} {us : List TV} (h : Parts B w v n us) : us.length = n := by have := h.row.1; rw [gcells_length] at this; omega
theorem Parts.form {B n : Nat} {w : World} {v : Value} {us : List TV} (h : Parts B w v n us) (hn : 0 < n) : ∃ g c, v = .slice (some ⟨g, 0, none⟩) n c := by
  obtain ⟨g, c, hv, -, -⟩ := h.row.form hn
  exact ⟨g, c, hv⟩
theorem Parts.gsl {B n g c : Nat} {w : World} {us : List TV} (h : Parts B w (.slice (some ⟨g, 0, none⟩) n c) n us) (hn : n ≤ 1000) : Gsl w (some ⟨g, 0, none⟩) n c us := by
  have hcap : n ≤ c ∧ c ≤ maxLen := by
    rcases h.row.2 with ⟨hv, h0⟩ | ⟨g', c', cur, hv, hbg, hg, hnc, hcm, rest⟩
    · simp at hv
    · simp only [Value.slice.injEq] at hv
      obtain ⟨-, -, rfl⟩ := hv
      exact ⟨hnc, hcm⟩
  exact ⟨gsat_of2 h.row (by omega) (fun t ht => (h.good t ht).1), fun t ht => (h.good t ht).2, hcap.1, by have := hcap.2; unfold maxLen at this; omega⟩
/-- The builtin append of one tensor. -/
theorem wpList_append_part {w : World} {ops : Array Oper} {rest : List Oper} {o : Oper} {a : Act} {Q : Exit → Act → World → Prop} (hgd : o.guard = none) (s x : Operand)
    (ho : o.op = .call { callee := .builtin .append, args := #[s, x], argTypes := #[22, 22] })
    (B : Nat) (v : Value) (n : Nat) (us : List TV) (hs : a.eval s = v) (hP : Parts B w v n us) (u : TV) (K : Nat) (hx : a.eval x = .slice (some ⟨K, 0, none⟩) 1 1) (hK : GAt w K (.slice u.sa u.sl u.sc) (.slice u.ca u.cl u.cc))
    (hu : Good u w) (hlow : ∀ b ∈ tblocks u, b < w.heap.size ∧ v.ownBlock ≠ some b) (hn : n ≤ 1000) (hB : B ≤ w.heap.size)
    (h : ∀ v' w', Parts B w' v' (n + 1) (us ++ [u]) → (∀ w0 : World, Below w0.heap.size w0 w → w0.heap.size ≤ B → Below w0.heap.size w0 w') → (∀ (J : Nat) s c, J < B → GAt w J s c → GAt w' J s c) → w.heap.size ≤ w'.heap.size → wpList Try.prog ops Q rest (a.put o.dst v') w') : wpList Try.prog ops Q (o :: rest) a w := by
  obtain ⟨i0, hi, hz0, hz1, hz2⟩ := info_parts gridInfo
  refine wpList_append_lies w hgd s x 22 ho B 29 i0 (.agg #[.slice none 0 0, .slice none 0 0]) 2 48 Try.underlying22 hi hz0 hz1 hz2 rfl (by decide) v n (gcells us) hs hP.row ⟨K, 0, none⟩ 1 1 (gcells [u]) hx (by rw [gcells_length]; rfl) (World.news_of_block hK) ?_ (by decide) (by unfold maxLen; omega) (by omega) hB _ rfl ?_
  · intro q hq
    simp only [gcells, List.mem_cons, List.not_mem_nil, or_false] at hq
    rcases hq with rfl | rfl <;> rfl
  · intro g cap w' hown hgrow hat hlt
    rw [← gcells_append] at hown
    have hblk : ∀ b, b < w.heap.size → v.ownBlock ≠ some b → w'.heap[b]? = w.heap[b]? := fun b hb hne => hgrow.block b hb (fun e => hne e.symm)
    have hne : ∀ b, b < w.heap.size → v.ownBlock ≠ some b → (Value.slice (some ⟨g, 0, none⟩) (n + 1) cap).ownBlock ≠ some b := by
      intro b hb hv e
      have e' : g = b := by simpa [Value.ownBlock] using e
      rcases hat with hat | hat
      · exact hv (by rw [hat, e'])
      · omega
    refine h _ w' ⟨hown, ?_, ?_⟩ ?_ ?_ hgrow.size
    · intro t ht
      rcases List.mem_append.1 ht with ht | ht
      · exact (hP.good t ht).apart (fun b hb => hblk b (hP.low t ht b hb).1 (hP.low t ht b hb).2)
      · rw [List.mem_singleton] at ht
        subst ht
        exact hu.apart (fun b hb => hblk b (hlow b hb).1 (hlow b hb).2)
    · intro t ht b hb
      have hl : b < w.heap.size ∧ v.ownBlock ≠ some b := by
        rcases List.mem_append.1 ht with ht | ht
        · exact hP.low t ht b hb
        · rw [List.mem_singleton] at ht
          subst ht
          exact hlow b hb
      exact ⟨Nat.lt_of_lt_of_le hl.1 hgrow.size, hne b hl.1 hl.2⟩
    · intro w0 hb0 hB0
      exact hb0.grown hgrow (Nat.le_trans hB0 hB) (fun q hq => Nat.le_trans hB0 (hP.row.lt q hq).1)
    · intro J s c hJ hG
      refine (hblk J (Nat.lt_of_lt_of_le hJ hB) (fun e => ?_)).trans hG
      have := (hP.row.lt J e).1
      omega

/-- New tensors and an error came back. -/
def LRes (w : World) (r : Int × List Pr) (e : Ending) (w' : World) : Prop :=
  ∃ a n c us, e = .returned (.tuple #[.slice a n c, .int .i64 r.1]) ∧ us.map pr = r.2 ∧ Gsl w' a n c us ∧ Below w.heap.size w w'
theorem lres_nil {w w' : World} (x : Int) (hb : Below w.heap.size w w') : LRes w (x, []) (.returned (.tuple #[.slice none 0 0, .int .i64 x])) w' :=
  ⟨none, 0, 0, [], rfl, rfl, ⟨GsAt.nil _ _, (fun t ht => (List.not_mem_nil ht).elim), Nat.le_refl _, Nat.zero_le _⟩, hb⟩
/-- The sides' sums. -/
theorem sides_step {k : Nat} : ∀ (l : List Pr) (j : Nat) (q : Pr), (∀ q ∈ l, 1 ≤ q.1.getD k 0) → l[j]? = some q →
    0 ≤ ((l.take j).map fun q => q.1.getD k 0).sum ∧ ((l.take j).map fun q => q.1.getD k 0).sum + q.1.getD k 0 ≤ (l.map fun q => q.1.getD k 0).sum ∧ ((l.take (j + 1)).map fun q => q.1.getD k 0).sum = ((l.take j).map fun q => q.1.getD k 0).sum + q.1.getD k 0 := by
  have pos : ∀ l : List Pr, (∀ q ∈ l, 1 ≤ q.1.getD k 0) → 0 ≤ (l.map fun q => q.1.getD k 0).sum := by
    intro l
    induction l with
    | nil => intro _; simp
    | cons q l ih =>
      intro h
      have h1 := h q (by simp)
      have h2 := ih (fun q' hq' => h q' (List.mem_cons_of_mem _ hq'))
      rw [List.map_cons, List.sum_cons]
      omega
  intro l j q h hj
  have e1 : l.take (j + 1) = l.take j ++ [q] := by rw [List.take_add_one, hj]; rfl
  have e2 : l = l.take (j + 1) ++ l.drop (j + 1) := (List.take_append_drop _ _).symm
  have p1 := pos (l.take j) (fun q' hq' => h q' (List.mem_of_mem_take hq'))
  have p2 := pos (l.drop (j + 1)) (fun q' hq' => h q' (List.mem_of_mem_drop hq'))
  have e3 : ((l.take (j + 1)).map fun q => q.1.getD k 0).sum = ((l.take j).map fun q => q.1.getD k 0).sum + q.1.getD k 0 := by
    rw [e1, List.map_append, List.sum_append, List.map_cons, List.map_nil, List.sum_cons, List.sum_nil, Int.add_zero]
  have e4 : (l.map fun q => q.1.getD k 0).sum = ((l.take (j + 1)).map fun q => q.1.getD k 0).sum + ((l.drop (j + 1)).map fun q => q.1.getD k 0).sum := by
    rw [← List.sum_append, ← List.map_append, List.take_append_drop]
  exact ⟨p1, by omega, e3⟩
theorem partsR_step (g : Pr) (k : Nat) (l : List Pr) (j : Nat) (q : Pr) (hj : l[j]? = some q) :
    partsR g k 0 (l.take (j + 1)) = partsR g k 0 (l.take j) ++ [(cutR g k ((l.take j).map fun q => q.1.getD k 0).sum (((l.take j).map fun q => q.1.getD k 0).sum + q.1.getD k 0)).2] := by
  have e1 : l.take (j + 1) = l.take j ++ [q] := by rw [List.take_add_one, hj]; rfl
  rw [e1, partsR_append, Int.zero_add]
  rfl

set_option maxHeartbeats 1000000 in
theorem jback_err (side : Int) (g : TV) (a : Option Addr) (len cap : Nat) (ts : List TV) (w : World) (h : Gsl w a len cap ts) (hg : Good g w) (hl : (ts.map fun t => t.cl).sum ≤ 1000) (hE : (mjoinR side (ts.map pr)).1 ≠ 0) :
    Calls Try.prog 14 #[.int .i64 side, .agg #[.slice g.sa g.sl g.sc, .slice g.ca g.cl g.cc], .slice a len cap] w (LRes w ((mjoinR side (ts.map pr)).1, [])) := by
  obtain ⟨wA, hwA, J, z, n1⟩ := grid_box w (.slice g.sa g.sl g.sc) (.slice g.ca g.cl g.cc)
  have C := mjoin_any side a len cap ts wA (h.kept z.out) hl
  obtain ⟨r, hr⟩ : ∃ r, mjoinR side (ts.map pr) = r := ⟨_, rfl⟩
  rw [hr] at C hE ⊢
  obtain ⟨x1, p1⟩ := r
  have dx : (x1 != 0) = true := bne_iff_ne.2 hE
  have C1 := Lib.hid C
  clear h hg C hr hE
  go_enter Try.func14, Try.ntmps14
  go_upto_region 1 with (fail)
  rw [hwA.out]
  go_wp2_with fail
  refine C1.out.mono ?_
  rintro e w2 ⟨t, rfl, hp, hG, hL, hb2⟩
  obtain ⟨w3, hw3, J3, z3, n3⟩ := grid_box w2 (.slice t.sa t.sl t.sc) (.slice t.ca t.cl t.cc)
  have bz := Lib.hid (z.out.trans ((hb2.trans (z3.out.mono hb2.size)).mono z.out.size))
  clear hp hG hL hb2
  go_upto_region 2 with (fail)
  rw [hw3.out]
  go_wp2_with fail
  go_ret2
  exact lres_nil x1 bz.out

set_option maxHeartbeats 1000000 in
theorem jback_bad (side : Int) (g : TV) (a : Option Addr) (len cap : Nat) (ts : List TV) (w : World) (h : Gsl w a len cap ts) (hg : Good g w) (hl : (ts.map fun t => t.cl).sum ≤ 1000) (hE : (mjoinR side (ts.map pr)).1 = 0)
    (hN : (okP (pr g) && sameL g.ss (mjoinR side (ts.map pr)).2.1) = false) :
    Calls Try.prog 14 #[.int .i64 side, .agg #[.slice g.sa g.sl g.sc, .slice g.ca g.cl g.cc], .slice a len cap] w (LRes w (20, [])) := by
  obtain ⟨wA, hwA, J, z, n1⟩ := grid_box w (.slice g.sa g.sl g.sc) (.slice g.ca g.cl g.cc)
  have C := mjoin_any side a len cap ts wA (h.kept z.out) hl
  obtain ⟨r, hr⟩ : ∃ r, mjoinR side (ts.map pr) = r := ⟨_, rfl⟩
  rw [hr] at C hE hN
  obtain ⟨x1, p1⟩ := r
  obtain rfl : x1 = 0 := hE
  have C1 := Lib.hid C
  have HG := Lib.hid (fun w1 (hb : Below wA.heap.size wA w1) => (hg.kept z.out).kept hb)
  have HN := Lib.hid hN
  clear h hg C hr hN
  go_enter Try.func14, Try.ntmps14
  go_upto_region 1 with (fail)
  rw [hwA.out]
  go_wp2_with fail
  refine C1.out.mono ?_
  rintro e w2 ⟨t, rfl, hp, hG, hL, hb2⟩
  obtain ⟨w3, hw3, J3, z3, n3⟩ := grid_box w2 (.slice t.sa t.sl t.sc) (.slice t.ca t.cl t.cc)
  have b3 := hb2.trans (z3.out.mono hb2.size)
  have bz := Lib.hid (z.out.trans (b3.mono z.out.size))
  have D := isgrad_any g t w3 (HG.out w3 b3) (hG.kept z3.out)
  have et : t.ss = p1.1 := by rw [← show pr t = p1 from hp]; rfl
  rw [et] at D
  have HN' := HN.out
  rw [HN'] at D
  have D1 := Lib.hid D
  have JG := Lib.hid (J.out.kept b3)
  clear hp hG hL hb2 D et HN' b3
  go_upto_region 2 with (fail)
  rw [hw3.out]
  obtain ⟨j0, j1, -, -⟩ := JG.out.see
  obtain ⟨k0, k1, -, -⟩ := J3.out.see
  go_wp2_with fail
  refine D1.out.mono ?_
  rintro e w4 ⟨rfl, hb4⟩
  have b4 := Lib.hid (bz.out.trans (hb4.mono bz.out.size))
  clear hb4 j0 j1 k0 k1
  go_wp2_with fail
  go_ret2
  exact lres_nil 20 b4.out

set_option maxRecDepth 100000 in
set_option maxHeartbeats 8000000 in
theorem jback_ok (k : Nat) (g : TV) (b off len cap : Nat) (ts : List TV) (w : World) (h : Gsl w (some ⟨b, off, none⟩) len cap ts) (hlen : 0 < len) (hlen2 : len ≤ 1000) (hg : Good g w) (hl : (ts.map fun t => t.cl).sum ≤ 1000) (hgl : g.cl ≤ 1000) (hE : (mjoinR k (ts.map pr)).1 = 0)
    (hN : (okP (pr g) && sameL g.ss (mjoinR k (ts.map pr)).2.1) = true) (hk : ∀ t ∈ ts, k < t.sl) (hs1 : ∀ q ∈ ts.map pr, 1 ≤ q.1.getD k 0) (hs2 : ((ts.map pr).map fun q => q.1.getD k 0).sum ≤ 1024) :
    Calls Try.prog 14 #[.int .i64 k, .agg #[.slice g.sa g.sl g.sc, .slice g.ca g.cl g.cc], .slice (some ⟨b, off, none⟩) len cap] w (LRes w (0, partsR (pr g) k 0 (ts.map pr))) := by
  obtain ⟨wA, hwA, J, z, n1⟩ := grid_box w (.slice g.sa g.sl g.sc) (.slice g.ca g.cl g.cc)
  have C := mjoin_any k (some ⟨b, off, none⟩) len cap ts wA (h.kept z.out) hl
  obtain ⟨r, hr⟩ : ∃ r, mjoinR k (ts.map pr) = r := ⟨_, rfl⟩
  rw [hr] at C hE hN
  obtain ⟨x1, p1⟩ := r
  obtain rfl : x1 = 0 := hE
  have C1 := Lib.hid C
  have HG := Lib.hid (fun w1 (hb : Below w.heap.size w w1) => hg.kept hb)
  have HN := Lib.hid hN
  have htl := Lib.hid h.len
  have H := Lib.hid (fun w1 (hb : Below w.heap.size w w1) j (hj : j < len) => (by
    obtain ⟨x, hx⟩ : ∃ x, ts[j]? = some x := ⟨_, List.getElem?_eq_getElem (by have := h.len; omega)⟩
    obtain ⟨d0, d1, hgx⟩ := (h.kept hb).cell hx
    have hkx := hk x (List.mem_of_getElem? hx)
    obtain ⟨sb, so, hsa, hsc⟩ := ints_cell hgx.1.1 (by omega)
    rw [hsa] at d0
    exact ⟨x, sb, so, hx, d0, d1, hsc k hkx, hkx, sides_step (ts.map pr) j (pr x) hs1 (by rw [List.getElem?_map, hx]; rfl), hgx.1.1.2.2.1.getD k⟩ :
      ∃ (x : TV) (sb so : Nat), ts[j]? = some x ∧ w1.cell? ⟨b, off + j * 2, none⟩ = some (.slice (some ⟨sb, so, none⟩) x.sl x.sc) ∧ w1.cell? ⟨b, off + j * 2 + 1, none⟩ = some (.slice x.ca x.cl x.cc) ∧ w1.cell? ⟨sb, so + k, none⟩ = some (.int .i64 (x.ss.getD k 0)) ∧ k < x.sl ∧
        (0 ≤ (((ts.map pr).take j).map fun q => q.1.getD k 0).sum ∧ (((ts.map pr).take j).map fun q => q.1.getD k 0).sum + (pr x).1.getD k 0 ≤ ((ts.map pr).map fun q => q.1.getD k 0).sum ∧ (((ts.map pr).take (j + 1)).map fun q => q.1.getD k 0).sum = (((ts.map pr).take j).map fun q => q.1.getD k 0).sum + (pr x).1.getD k 0) ∧
        (-9223372036854775808 ≤ x.ss.getD k 0 ∧ x.ss.getD k 0 ≤ 9223372036854775807)))
  have HS2 := Lib.hid hs2
  have HS1 := Lib.hid hs1
  clear h hg C hr hN hk hs1 hs2 hl
  go_enter Try.func14, Try.ntmps14
  go_upto_region 1 with (fail)
  rw [hwA.out]
  go_wp2_with fail
  refine C1.out.mono ?_
  rintro e w2 ⟨t, rfl, hp, hG, hL, hb2⟩
  obtain ⟨w3, hw3, J3, z3, n3⟩ := grid_box w2 (.slice t.sa t.sl t.sc) (.slice t.ca t.cl t.cc)
  have b3 := hb2.trans (z3.out.mono hb2.size)
  have bz := Lib.hid (z.out.trans (b3.mono z.out.size))
  have D := isgrad_any g t w3 (HG.out w3 bz.out) (hG.kept z3.out)
  have et : t.ss = p1.1 := by rw [← show pr t = p1 from hp]; rfl
  rw [et] at D
  have HN' := HN.out
  rw [HN'] at D
  have D1 := Lib.hid D
  have JG := Lib.hid (J.out.kept b3)
  clear hp hG hL hb2 D et HN' b3
  go_upto_region 2 with (fail)
  rw [hw3.out]
  obtain ⟨j0, j1, -, -⟩ := JG.out.see
  obtain ⟨k0, k1, -, -⟩ := J3.out.see
  go_wp2_with fail
  refine D1.out.mono ?_
  rintro e w4 ⟨rfl, hb4⟩
  have b4 := Lib.hid (bz.out.trans (hb4.mono bz.out.size))
  have JG4 := Lib.hid (JG.out.kept hb4)
  have hB4 := Lib.hid (show w.heap.size < w4.heap.size from JG4.out.lt)
  clear hb4 j0 j1 k0 k1 JG
  go_wp2_with fail
  go_loopw [10, 11, 32] (fun v f i wr => ∃ (j : Nat) (F : Int) (us : List TV) (vv : Value), vv = v ∧ j ≤ len ∧ i = .int .i64 j ∧ f = .int .i64 F ∧ 0 ≤ F ∧ F ≤ 1024 ∧ Hid (F = (((ts.map pr).take j).map fun q => q.1.getD k 0).sum) ∧ Hid (Parts (w.heap.size + 1) wr vv j us) ∧ Hid (us.map pr = partsR (pr g) k 0 ((ts.map pr).take j)) ∧ Hid (Below w.heap.size w wr) ∧ Hid (GAt wr w.heap.size (.slice g.sa g.sl g.sc) (.slice g.ca g.cl g.cc))) (fun _ _ i _ => len - (intOf i).toNat)
  case atStart => exact ⟨0, 0, [], .slice none 0 0, rfl, Nat.zero_le _, rfl, rfl, by omega, by omega, Lib.hid (by simp), Lib.hid (Parts.nil _ _), Lib.hid (by simp [partsR]), b4, JG4⟩
  case round =>
    obtain ⟨j, F, us, vv, rfl, hj, rfl, rfl, hF0, hF1, hF, hP, hus, hbr, hJG⟩ := hrel
    by_cases hlt : j < len
    · obtain ⟨x, sb, so, hx, c0, c1, c2, hkx, ⟨-, st2, st3⟩, st4⟩ := H.out wr hbr.out j hlt
      have pst := partsR_step (pr g) k (ts.map pr) j (pr x) (by rw [List.getElem?_map, hx]; rfl)
      have q1 := HS1.out (pr x) (List.mem_map.2 ⟨x, List.mem_of_getElem? hx, rfl⟩)
      rw [← hF.out] at st2 st3 pst
      have ez : (pr x).1.getD k 0 = x.ss.getD k 0 := rfl
      rw [ez] at st2 st3 pst q1
      obtain ⟨zz, hzz⟩ : ∃ zz, x.ss.getD k 0 = zz := ⟨_, rfl⟩
      rw [hzz] at st2 st3 pst q1 st4 c2
      have hz2 : F + zz ≤ 1024 := by have := HS2.out; omega
      obtain ⟨wX, hwX, JX, zX, nX⟩ := grid_box wr (.slice (some ⟨sb, so, none⟩) x.sl x.sc) (.slice x.ca x.cl x.cc)
      have bx := Lib.hid (hbr.out.trans (zX.out.mono hbr.out.size))
      have JGx := Lib.hid (hJG.out.kept zX.out)
      have K := tcut_any g k F (F + zz) wX (HG.out wX bx.out) (by omega)
      obtain ⟨rr, hrr⟩ : ∃ rr, cutR (pr g) k F (F + zz) = rr := ⟨_, rfl⟩
      rw [hrr] at K pst
      have K1 := Lib.hid K
      have hPx := Lib.hid (hP.out.kept zX.out)
      have hpst := Lib.hid pst
      have hst3 := Lib.hid st3
      have c2x := cell_later zX.out c2
      have hkx' : (k : Int) < x.sl := by omega
      clear K hrr pst st2 st3 hx hzz ez hP hJG hbr c2 hF
      go_upto_region 11 with (fail)
      rw [hwX.out]
      clear c0 c1
      obtain ⟨x0, x1', -, -⟩ := JX.out.see
      obtain ⟨g0, g1, -, -⟩ := JGx.out.see
      go_wp2_with fail
      refine K1.out.mono ?_
      rintro e w5 ⟨u, rfl, hpu, hGu, hLu, hb5⟩
      obtain ⟨w6, hw6, J6, z6, n6⟩ := grid_box w5 (.slice u.sa u.sl u.sc) (.slice u.ca u.cl u.cc)
      have b6 := hb5.trans (z6.out.mono hb5.size)
      have by6 := Lib.hid (bx.out.trans (b6.mono bx.out.size))
      have JG6 := Lib.hid (JGx.out.kept b6)
      have hl5 : ∀ q ∈ tblocks u, q < w6.heap.size ∧ vv.ownBlock ≠ some q := fun q hq => ⟨Nat.lt_of_lt_of_le (hLu q hq).2 z6.out.size, fun e => by
        have h1 := (hPx.out.row.lt q e).2
        have h2 := (hLu q hq).1
        omega⟩
      obtain ⟨wK, hwK, JK, zK, nK⟩ := grid_box w6 (.slice u.sa u.sl u.sc) (.slice u.ca u.cl u.cc)
      have hPK := Lib.hid ((hPx.out.kept b6).kept zK.out)
      have huK := Lib.hid ((hGu.kept z6.out).kept zK.out)
      have hlK := Lib.hid (fun q hq => (⟨Nat.lt_of_lt_of_le (hl5 q hq).1 zK.out.size, (hl5 q hq).2⟩ : q < wK.heap.size ∧ vv.ownBlock ≠ some q))
      have bK := Lib.hid (by6.out.trans (zK.out.mono by6.out.size))
      have hBK : Hid (w.heap.size + 1 ≤ wK.heap.size) := Lib.hid (by have := zK.out.size; have := by6.out.size; have := JG6.out.lt; omega)
      have JGK := Lib.hid (JG6.out.kept zK.out)
      have hpu2 := Lib.hid hpu
      have hj10 : j ≤ 1000 := by omega
      clear hpu hGu hLu hb5 b6 hl5 by6 JG6 x0 x1' g0 g1
      go_upto_region 13 with (fail)
      rw [hw6.out]
      obtain ⟨y0, y1, -, -⟩ := J6.out.see
      have hwK' := hwK.out
      go_wp2_with (at_builtin; refine wpList_append_part rfl _ _ rfl (w.heap.size + 1) _ j us rfl hPK.out u w6.heap.size rfl JK.out huK.out hlK.out hj10 hBK.out ?_)
      intro v7 w7 hP7 hB7 hJ7 hs7
      have F1 := Lib.hid hP7
      have F2 := Lib.hid (hB7 w bK.out (Nat.le_succ _))
      have F3 := Lib.hid (hJ7 _ _ _ (Nat.lt_succ_self _) JGK.out)
      have F4 : Hid ((us ++ [u]).map pr = partsR (pr g) k 0 ((ts.map pr).take (j + 1))) := Lib.hid (by
        rw [hpst.out, List.map_append, hus.out, List.map_cons, List.map_nil, hpu2.out])
      have F5 := Lib.hid hst3.out.symm
      clear hP7 hB7 hJ7 hs7 hwK' y0 y1 hPK huK hlK hus
      go_wp2_with fail
      go_roundw
      case rel => exact ⟨j + 1, F + zz, us ++ [u], _, rfl, by omega, by go_num, rfl, by omega, by omega, F5, F1, F4, F2, F3⟩
      case measure => (simp [intOf]; try omega)
    · obtain rfl : j = len := by omega
      have hus' := hus.out
      rw [List.take_of_length_le (by rw [List.length_map, htl.out]; exact Nat.le_refl _)] at hus'
      obtain ⟨g', c', rfl⟩ := hP.out.form hlen
      have F : Hid (LRes w (0, partsR (pr g) k 0 (ts.map pr)) (.returned (.tuple #[.slice (some ⟨g', 0, none⟩) j c', .int .i64 0])) wr) := Lib.hid ⟨_, _, _, us, rfl, hus', hP.out.gsl hlen2, hbr.out⟩
      clear hus' hus hP hbr hJG hF
      go_wp2_with fail
      go_ret2
      exact F.out

/-- What JoinBack says of any tensors. -/
theorem jback_any (side : Int) (g : TV) (a : Option Addr) (len cap : Nat) (ts : List TV) (w : World) (h : Gsl w a len cap ts) (hlen : len ≤ 1000) (hg : Good g w) (hl : (ts.map fun t => t.cl).sum ≤ 1000) (hgl : g.cl ≤ 1000) :
    Calls Try.prog 14 #[.int .i64 side, .agg #[.slice g.sa g.sl g.sc, .slice g.ca g.cl g.cc], .slice a len cap] w (LRes w (jbackR side (pr g) (ts.map pr))) := by
  unfold jbackR
  by_cases c : (mjoinR side (ts.map pr)).1 = 0
  case neg =>
    rw [if_pos c]
    exact jback_err side g a len cap ts w h hg hl c
  rw [if_neg (by simpa using c)]
  cases d : (okP (pr g) && sameL g.ss (mjoinR side (ts.map pr)).2.1)
  · rw [if_pos (by exact d)]
    exact jback_bad side g a len cap ts w h hg hl c d
  · rw [if_neg (by show ¬ (okP (pr g) && sameL g.ss (mjoinR side (ts.map pr)).2.1) = false; rw [d]; decide)]
    obtain ⟨k, x, P, M, rfl, hN, -, hne, hsum, hall⟩ := mjoin_good c
    have h0 : 0 < len := by
      rcases Nat.eq_zero_or_pos len with h0 | h0
      · have := h.len
        rw [h0] at this
        rw [List.length_eq_zero_iff.1 this] at hne
        exact absurd rfl hne
      · exact h0
    obtain ⟨b, off, rfl⟩ := h.addr h0
    refine jback_ok k g b off len cap ts w h h0 hlen hg hl hgl c d ?_ ?_ ?_
    · intro t ht
      obtain ⟨-, z, hz, -⟩ := hall (pr t) (List.mem_map.2 ⟨t, ht, rfl⟩)
      have := hz.len
      have e : (pr t).1.length = t.sl := (h.good ht).slen
      omega
    · intro q hq
      obtain ⟨-, z, hz, -⟩ := hall q hq
      have := hz.xE; have := hz.x1
      omega
    · rw [hsum]; have := hN.x2; omega
end Go.Proofs.Ytieegaojcjhfdaa

/-
  The contract of package move's CutBack.
-/
namespace Go.Proofs.Ytieegaojcjhfdaa
open Go.RowKit
set_option linter.unusedVariables false
set_option linter.unusedSimpArgs false

/-- The cells of a join that goes well are all cells. -/
theorem mjoin_sum {side : Int} {l : List Pr} (h : (mjoinR side l).1 = 0) : (l.map fun q => q.2.length).sum = (mjoinR side l).2.2.length := by
  match l, h with
  | [], h => simp [mjoinR] at h
  | [p], h =>
    change (aloneR p side).1 = 0 at h
    rw [show mjoinR side [p] = aloneR p side from rfl]
    unfold aloneR at h ⊢
    by_cases c1 : okP p = false
    · rw [if_pos c1] at h; simp at h
    rw [if_neg c1] at h ⊢
    by_cases c2 : hasD p.1.length side = false
    · rw [if_pos c2] at h; simp at h
    rw [if_neg c2]
    simp
  | p :: q :: l, h =>
    change (goJ side (0, p) (q :: l)).1 = 0 at h
    rw [show mjoinR side (p :: q :: l) = goJ side (0, p) (q :: l) from rfl]
    obtain ⟨k, x, P, M, rfl, -, -, -, y, -, -, -, -, hlen⟩ := goJ_good (q :: l) p (by simp) h
    rw [hlen, List.map_cons, List.sum_cons]
theorem cl_sum {us : List TV} {w : World} (h : ∀ u ∈ us, Good u w) : (us.map fun t => t.cl).sum = ((us.map pr).map fun q => q.2.length).sum := by
  induction us with
  | nil => rfl
  | cons u l ih =>
    rw [List.map_cons, List.sum_cons, List.map_cons, List.map_cons, List.sum_cons, ih (fun u' hu' => h u' (List.mem_cons_of_mem _ hu'))]
    have e : (pr u).2.length = u.cl := (h u (by simp)).len
    rw [e]
theorem parts_cells {x : Pr} {k n P M fr tt : Nat} (hN : NumT x.1 k n P M) (hft : fr ≤ tt) (ht : tt ≤ n) {g : List Int} (hg : g.length = M * ((tt - fr) * P)) : (spreadP g (fr * P) ((tt - fr) * P) ((n - tt) * P) M).length = M * (n * P) := by
  rw [spreadP_length M (by omega), ← Nat.add_mul, ← Nat.add_mul, show fr + (tt - fr) + (n - tt) = n by omega]

set_option maxHeartbeats 1000000 in
theorem cback_err (x g : TV) (side fr tt : Int) (w : World) (h : Good x w) (hl : x.cl ≤ 1000) (hE : (cutR (pr x) side fr tt).1 ≠ 0) :
    Calls Try.prog 18 #[.agg #[.slice x.sa x.sl x.sc, .slice x.ca x.cl x.cc], .agg #[.slice g.sa g.sl g.sc, .slice g.ca g.cl g.cc], .int .i64 side, .int .i64 fr, .int .i64 tt] w (TRes w ((cutR (pr x) side fr tt).1, nilP)) := by
  obtain ⟨wA, hwA, J1, z1, n1⟩ := grid_box w (.slice x.sa x.sl x.sc) (.slice x.ca x.cl x.cc)
  obtain ⟨wC, hwC, J3, z3, n3⟩ := grid_box wA (.slice g.sa g.sl g.sc) (.slice g.ca g.cl g.cc)
  obtain ⟨wB, hwB, J2, z2, n2⟩ := grid_box wC (.slice none 0 0) (.slice none 0 0)
  rw [n1.out] at J3
  rw [n3.out, n1.out] at J2
  have z13 := z1.out.trans (z3.out.mono z1.out.size)
  have z := Lib.hid (z13.trans (z2.out.mono z13.size))
  have J := Lib.hid ((J1.out.kept z3.out).kept z2.out)
  have JG := Lib.hid (J3.out.kept z2.out)
  have hsz := Lib.hid (show w.heap.size + 1 + 1 < wB.heap.size by have := n1.out; have := n2.out; have := n3.out; omega)
  clear z13
  have C := mcut_any x side fr tt wB (h.kept z.out) (by omega)
  obtain ⟨r, hr⟩ : ∃ r, cutR (pr x) side fr tt = r := ⟨_, rfl⟩
  rw [hr] at C hE ⊢
  obtain ⟨x1, p1⟩ := r
  have dx : (x1 != 0) = true := bne_iff_ne.2 hE
  have C1 := Lib.hid C
  clear h C hr hE J1 J3
  obtain ⟨j0, j1, -, -⟩ := J.out.see
  go_enter Try.func18, Try.ntmps18
  go_upto_region 1 with (fail)
  rw [hwA.out, hwC.out, hwB.out]
  go_wp2_with fail
  refine C1.out.mono ?_
  rintro e w2 ⟨t, rfl, hp, hG, hL, hb2⟩
  obtain ⟨w3, hw3, JT, zT, nT⟩ := grid_box w2 (.slice t.sa t.sl t.sc) (.slice t.ca t.cl t.cc)
  have b3 := hb2.trans (zT.out.mono hb2.size)
  clear hp hG hL j0 j1
  go_upto_region 2 with (fail)
  rw [hw3.out]
  obtain ⟨e0, e1, f0, f1⟩ := (J2.out.kept b3).see
  obtain ⟨w9, hw9, R9, h0, h1⟩ := nil_put (z.out.trans (b3.mono z.out.size)) (show w.heap.size ≤ w.heap.size + 1 + 1 by omega) (J2.out.kept b3) x1
  clear hb2 b3
  go_wp2_with fail
  rw [hw9.out]
  refine bodyPost_ret (v := .tuple #[.agg #[.slice none 0 0, .slice none 0 0], .int .i64 x1]) ?_ rfl R9.out
  simp [results, Try.results18, go_sem, h0, h1]

set_option maxHeartbeats 1000000 in
theorem cback_bad (x g : TV) (side fr tt : Int) (w : World) (h : Good x w) (hg : Good g w) (hl : x.cl ≤ 1000) (hE : (cutR (pr x) side fr tt).1 = 0) (hN : (okP (pr g) && sameL g.ss (cutR (pr x) side fr tt).2.1) = false) :
    Calls Try.prog 18 #[.agg #[.slice x.sa x.sl x.sc, .slice x.ca x.cl x.cc], .agg #[.slice g.sa g.sl g.sc, .slice g.ca g.cl g.cc], .int .i64 side, .int .i64 fr, .int .i64 tt] w (TRes w (20, nilP)) := by
  obtain ⟨wA, hwA, J1, z1, n1⟩ := grid_box w (.slice x.sa x.sl x.sc) (.slice x.ca x.cl x.cc)
  obtain ⟨wC, hwC, J3, z3, n3⟩ := grid_box wA (.slice g.sa g.sl g.sc) (.slice g.ca g.cl g.cc)
  obtain ⟨wB, hwB, J2, z2, n2⟩ := grid_box wC (.slice none 0 0) (.slice none 0 0)
  rw [n1.out] at J3
  rw [n3.out, n1.out] at J2
  have z13 := z1.out.trans (z3.out.mono z1.out.size)
  have z := Lib.hid (z13.trans (z2.out.mono z13.size))
  have J := Lib.hid ((J1.out.kept z3.out).kept z2.out)
  have JG := Lib.hid (J3.out.kept z2.out)
  have hsz := Lib.hid (show w.heap.size + 1 + 1 < wB.heap.size by have := n1.out; have := n2.out; have := n3.out; omega)
  clear z13
  have C := mcut_any x side fr tt wB (h.kept z.out) (by omega)
  obtain ⟨r, hr⟩ : ∃ r, cutR (pr x) side fr tt = r := ⟨_, rfl⟩
  rw [hr] at C hE hN
  obtain ⟨x1, p1⟩ := r
  obtain rfl : x1 = 0 := hE
  have C1 := Lib.hid C
  have HG := Lib.hid (fun w1 (hb : Below w.heap.size w w1) => hg.kept hb)
  have HN := Lib.hid hN
  clear h hg C hr hN J1 J3
  obtain ⟨j0, j1, -, -⟩ := J.out.see
  go_enter Try.func18, Try.ntmps18
  go_upto_region 1 with (fail)
  rw [hwA.out, hwC.out, hwB.out]
  go_wp2_with fail
  refine C1.out.mono ?_
  rintro e w2 ⟨t, rfl, hp, hG, hL, hb2⟩
  obtain ⟨w3, hw3, JT, zT, nT⟩ := grid_box w2 (.slice t.sa t.sl t.sc) (.slice t.ca t.cl t.cc)
  have b3 := hb2.trans (zT.out.mono hb2.size)
  have bz := Lib.hid (z.out.trans (b3.mono z.out.size))
  clear hb2
  have D := isgrad_any g t w3 (HG.out w3 bz.out) (hG.kept zT.out)
  have et : t.ss = p1.1 := by rw [← show pr t = p1 from hp]; rfl
  rw [et] at D
  have HN' := HN.out
  rw [HN'] at D
  have D1 := Lib.hid D
  have J5 := Lib.hid (J.out.kept b3)
  have J6 := Lib.hid (JG.out.kept b3)
  have J10 := Lib.hid (J2.out.kept b3)
  clear hp hG hL D et HN' j0 j1
  go_upto_region 2 with (fail)
  rw [hw3.out]
  obtain ⟨g0, g1, -, -⟩ := J6.out.see
  obtain ⟨t0, t1, -, -⟩ := JT.out.see
  go_wp2_with fail
  refine D1.out.mono ?_
  rintro e w4 ⟨rfl, hb4⟩
  have b4 := Lib.hid (bz.out.trans (hb4.mono bz.out.size))
  clear g0 g1 t0 t1
  obtain ⟨e0, e1, f0, f1⟩ := (J10.out.kept hb4).see
  obtain ⟨w9, hw9, R9, h0, h1⟩ := nil_put b4.out (show w.heap.size ≤ w.heap.size + 1 + 1 by omega) (J10.out.kept hb4) 20
  clear hb4 b3
  go_wp2_with fail
  rw [hw9.out]
  refine bodyPost_ret (v := .tuple #[.agg #[.slice none 0 0, .slice none 0 0], .int .i64 20]) ?_ rfl R9.out
  simp [results, Try.results18, go_sem, h0, h1]

set_option maxRecDepth 100000 in
set_option maxHeartbeats 8000000 in
theorem cback_00 (x g : TV) (k n P M : Nat) (w : World) (h : Good x w) (hg : Good g w) (hl : x.cl ≤ 1000) (hN : NumT x.ss k n P M) (hx : okP (pr x) = true) (hgo : okP (pr g) = true) (he : g.ss = x.ss.set k ((n - 0 : Nat) : Int)) :
    Calls Try.prog 18 #[.agg #[.slice x.sa x.sl x.sc, .slice x.ca x.cl x.cc], .agg #[.slice g.sa g.sl g.sc, .slice g.ca g.cl g.cc], .int .i64 k, .int .i64 0, .int .i64 n] w (TRes w (mjoinR k (cbackL (pr x) (pr g) k 0 n))) := by
  have e0' : ((0 : Nat) : Int) = 0 := rfl
  have hn1 := hN.x1
  have hsum : ((cbackL (pr x) (pr g) k 0 n).map fun q => q.2.length).sum ≤ 1000 := by
    have e := cback_ok (x := pr x) (g := pr g) hN hx (f := 0) (t := n) (by omega) (by omega) hgo he
    try simp only [e0'] at e
    have e2 := mjoin_sum (side := (k : Int)) (l := cbackL (pr x) (pr g) k 0 n) (by rw [e])
    rw [e2, e]
    have hgl := okP_len (p := pr g) (k := k) (x := n - 0) (P := P) (M := M) (by show NumT g.ss k (n - 0) P M; rw [he]; exact (hN.set_le (rightT_parts hx).1 (y := n - 0) (by omega) (by omega)).2) hgo
    have hxl := okP_len (p := pr x) hN hx
    have hxl2 : (pr x).2.length = x.cl := h.len
    show (spreadP (pr g).2 (0 * P) ((n - 0) * P) ((n - n) * P) M).length ≤ 1000
    rw [parts_cells (x := pr x) (fr := 0) (tt := n) hN (by omega) (by omega) hgl]
    omega
  have hcut := cutR_at (p := pr x) hN hx (fr := 0) (tt := n) (by omega) (by omega)
  try simp only [e0'] at hcut
  have hr := (rightT_parts hx).1
  have hkl : k < x.sl := by have := hN.len; have := h.slen; omega
  obtain ⟨sb, so, hsa, hsc⟩ := ints_cell h.1.1 (by omega)
  have HSC := Lib.hid (fun w1 (hb : Below w.heap.size w w1) => cell_later hb (hsc k hkl))
  rw [hN.xE] at HSC
  have hgl2 : Lies g 0 w.heap.size := hg.lt (by have := hgo; rw [hg.ok] at this; exact this)
  have HGL := Lib.hid hgl2
  obtain ⟨L, hL0⟩ : ∃ L, cbackL (pr x) (pr g) k 0 n = L := ⟨_, rfl⟩
  have HL0 := Lib.hid hL0
  rw [hL0] at hsum ⊢
  have HSUM := Lib.hid hsum
  have hpn : (prodI x.ss).toNat ≤ 2000 := by
    have hxl := okP_len (p := pr x) hN hx
    have hxl2 : (pr x).2.length = x.cl := h.len
    have := hN.all
    omega
  obtain ⟨wA, hwA, J1, z1, n1⟩ := grid_box w (.slice x.sa x.sl x.sc) (.slice x.ca x.cl x.cc)
  obtain ⟨wC, hwC, J3, z3, n3⟩ := grid_box wA (.slice g.sa g.sl g.sc) (.slice g.ca g.cl g.cc)
  obtain ⟨wB, hwB, J2, z2, n2⟩ := grid_box wC (.slice none 0 0) (.slice none 0 0)
  rw [n1.out] at J3
  rw [n3.out, n1.out] at J2
  have z13 := z1.out.trans (z3.out.mono z1.out.size)
  have z := Lib.hid (z13.trans (z2.out.mono z13.size))
  have J := Lib.hid ((J1.out.kept z3.out).kept z2.out)
  have JG := Lib.hid (J3.out.kept z2.out)
  have hsz := Lib.hid (show w.heap.size + 1 + 1 < wB.heap.size by have := n1.out; have := n2.out; have := n3.out; omega)
  clear z13
  have C := mcut_any x k 0 n wB (h.kept z.out) (by omega)
  obtain ⟨p1, hp1⟩ : ∃ p : Pr, (x.ss.set k ((n - 0 : Nat) : Int), cutP x.cs (n * P) (0 * P) ((n - 0) * P) M) = p := ⟨_, rfl⟩
  have hcut' : cutR (pr x) k 0 n = (0, p1) := by rw [hcut, ← hp1]; rfl
  rw [hcut'] at C
  have hNN : (okP (pr g) && sameL g.ss p1.1) = true := by rw [hgo, ← hp1, he, sameL_self]; rfl
  have C1 := Lib.hid C
  have HG := Lib.hid (fun w1 (hb : Below w.heap.size w w1) => hg.kept hb)
  have HN := Lib.hid hNN
  have HM := Lib.hid (fun w1 (hb : Below w.heap.size w w1) => tmake_any x.sa x.sl x.sc x.ss w1 (h.kept hb).1.1 hr)
  have hxE := Lib.hid hN.xE
  obtain ⟨Zp, hZp⟩ : ∃ Z : Pr, (x.ss, List.replicate (prodI x.ss).toNat (0 : Int)) = Z := ⟨_, rfl⟩
  rw [hZp] at HM
  have HZp := Lib.hid hZp
  have hzl : Zp.2.length ≤ 2000 := by rw [← hZp]; simpa using hpn
  have hbx2 := Lib.hid h.1.2.2.1
  rw [hsa] at C1 J HM ⊢
  simp only [hsa] at hwA
  clear h hg C hcut hcut' hr hsc hgl2 hL0 hsum hpn hp1 hNN hZp hN hx hgo he J1 J3 hl e0'
  obtain ⟨j0, j1, -, -⟩ := J.out.see
  go_enter Try.func18, Try.ntmps18
  go_upto_region 1 with (fail)
  rw [hwA.out, hwC.out, hwB.out]
  go_wp2_with fail
  refine C1.out.mono ?_
  rintro e w2 ⟨t, rfl, hp, hG, hL, hb2⟩
  obtain ⟨w3, hw3, JT, zT, nT⟩ := grid_box w2 (.slice t.sa t.sl t.sc) (.slice t.ca t.cl t.cc)
  have b3 := hb2.trans (zT.out.mono hb2.size)
  have bz := Lib.hid (z.out.trans (b3.mono z.out.size))
  clear hb2
  have D := isgrad_any g t w3 (HG.out w3 bz.out) (hG.kept zT.out)
  have et : t.ss = p1.1 := by rw [← show pr t = p1 from hp]; rfl
  rw [et] at D
  have HN' := HN.out
  rw [HN'] at D
  have D1 := Lib.hid D
  have J5 := Lib.hid (J.out.kept b3)
  have J6 := Lib.hid (JG.out.kept b3)
  have J10 := Lib.hid (J2.out.kept b3)
  clear hp hG hL D et HN' j0 j1
  go_upto_region 2 with (fail)
  rw [hw3.out]
  obtain ⟨g0, g1, -, -⟩ := J6.out.see
  obtain ⟨t0, t1, -, -⟩ := JT.out.see
  go_wp2_with fail
  refine D1.out.mono ?_
  rintro e w4 ⟨rfl, hb4⟩
  have b4 := Lib.hid (bz.out.trans (hb4.mono bz.out.size))
  clear g0 g1 t0 t1
  obtain ⟨j0, j1, -, -⟩ := (J5.out.kept hb4).see
  go_wp2_with fail
  refine (HM.out w4 b4.out).mono ?_
  rintro e w5 ⟨Z, rfl, hpZ, hGZ, hLZ, hb5⟩
  obtain ⟨w6, hw6, JZ, zZ, nZ⟩ := grid_box w5 (.slice Z.sa Z.sl Z.sc) (.slice Z.ca Z.cl Z.cc)
  have b56 := hb5.trans (zZ.out.mono hb5.size)
  have b46 := hb4.trans (b56.mono hb4.size)
  have b6 := Lib.hid (b4.out.trans (b56.mono b4.out.size))
  have K5 := Lib.hid (J5.out.kept b46)
  have K6 := Lib.hid (J6.out.kept b46)
  have K10 := Lib.hid (J10.out.kept b46)
  have KZ := Lib.hid (hGZ.kept zZ.out)
  have hZl : Z.cl ≤ 2000 := by
    have e1 : Z.cs.length = Zp.2.length := by rw [← show pr Z = Zp from hpZ]; rfl
    have := hGZ.len
    omega
  have hpZ2 := Lib.hid (show pr Z = Zp from hpZ)
  have B6 : Hid (w.heap.size + 1 + 1 < w6.heap.size) := Lib.hid K10.out.lt
  have rf6 := Lib.hid (Below.refl w6.heap.size w6)
  clear j0 j1 hb4 hb5 b56 b46 hpZ hGZ hLZ J5 J6 J10 b3
  go_upto_region 7 with (fail)
  rw [hw6.out]
  have hlg := Lib.hid (fun q (hq : q ∈ tblocks g) => (⟨Nat.lt_of_lt_of_le (HGL.out q hq).2 (Nat.le_trans b6.out.size (Below.size rf6.out)), fun e => by have h1 := ((Parts.row (Parts.nil w6.heap.size w6)).lt q e).1; have h2 := (HGL.out q hq).2; have h3 := b6.out.size; omega⟩ : q < w6.heap.size ∧ (.slice none 0 0 : Value).ownBlock ≠ some q))
  obtain ⟨wk2, hwk2, JK2, zK2, nK2⟩ := grid_box w6 (.slice g.sa g.sl g.sc) (.slice g.ca g.cl g.cc)
  have hPK2 := Lib.hid (Parts.kept (Parts.nil w6.heap.size w6) zK2.out)
  have huK2 := Lib.hid (Good.kept (HG.out w6 (b6.out.trans (Below.mono rf6.out b6.out.size))) zK2.out)
  have hlK2 := Lib.hid (fun q (hq : q ∈ tblocks g) => (⟨Nat.lt_of_lt_of_le (hlg.out q hq).1 zK2.out.size, (hlg.out q hq).2⟩ : q < wk2.heap.size ∧ (.slice none 0 0 : Value).ownBlock ≠ some q))
  have bK2 := Lib.hid (Below.trans rf6.out (zK2.out.mono (Below.size rf6.out)))
  obtain ⟨g0, g1', -, -⟩ := (K6.out.kept rf6.out).see
  have hwk2' := hwk2.out
  go_wp2_with (at_builtin; refine wpList_append_part rfl _ _ rfl w6.heap.size (.slice none 0 0) 0 [] rfl hPK2.out g w6.heap.size rfl JK2.out huK2.out hlK2.out (by decide) bK2.out.size ?_)
  intro v2 wp2 hP2 hB2 hJ2 hs2
  have FP2 := Lib.hid hP2
  have FB2 := Lib.hid (hB2 w6 bK2.out (Nat.le_refl _))
  clear hP2 hB2 hJ2 hs2 hwk2' hPK2 huK2 hlK2 bK2
  clear g0 g1' hlg
  obtain ⟨j0, j1, -, -⟩ := (K5.out.kept FB2.out).see
  have hsk := HSC.out wp2 (b6.out.trans (Below.mono FB2.out b6.out.size))
  have hkl' : (k : Int) < x.sl := by omega
  have hus : List.map pr [g] = L := by
    rw [← HL0.out]
    show [pr g] = _
    unfold cbackL
    rw [Int.toNat_natCast, show (pr x).1.getD k 0 = (n : Int) from hxE.out, if_neg (by decide : ¬ (0 : Int) < 0), if_neg (by omega : ¬ (n : Int) < (n : Int))]
    show _ = [pr g]
    rfl
  have hPF := FP2.out
  clear FP2
  obtain ⟨gF, cF, rfl⟩ := hPF.form (by decide)
  have hgs : Gsl wp2 (some ⟨gF, 0, none⟩) 1 cF [g] := Parts.gsl hPF (by decide)
  have CJ := mjoin_any k _ _ _ _ _ hgs (by rw [cl_sum (fun u hu => hgs.good hu), hus]; exact HSUM.out)
  rw [hus] at CJ
  have CJ2 := Lib.hid (CJ.mono fun _ _ h' => h'.mono FB2.out)
  clear hgs CJ hus hPF
  go_wp2_with fail
  refine CJ2.out.mono ?_
  rintro e w8 ⟨t8, rfl, hp8, hG8, hL8, hb8⟩
  obtain ⟨e0, e1, f0, f1⟩ := (K10.out.kept hb8).see
  obtain ⟨w9, hw9, q1, q2, q3, h0, h1⟩ := tres_put b6.out (show w.heap.size ≤ w.heap.size + 1 + 1 by omega) B6.out (K10.out.kept hb8) hG8 hL8 hb8
  clear hG8 hL8 hb8
  go_wp2_with fail
  rw [hw9.out]
  refine bodyPost_ret (v := .tuple #[.agg #[.slice t8.sa t8.sl t8.sc, .slice t8.ca t8.cl t8.cc], .int .i64 (mjoinR k L).1]) ?_ rfl ⟨t8, rfl, hp8, q1.out, q2.out, q3.out⟩
  simp [results, Try.results18, go_sem, h0, h1]

set_option maxRecDepth 100000 in
set_option maxHeartbeats 8000000 in
theorem cback_01 (x g : TV) (k n P M tt : Nat) (w : World) (h : Good x w) (hg : Good g w) (hl : x.cl ≤ 1000) (hN : NumT x.ss k n P M) (hx : okP (pr x) = true) (hgo : okP (pr g) = true) (he : g.ss = x.ss.set k ((tt - 0 : Nat) : Int)) (ht0 : tt < n) (hft : 0 < tt) :
    Calls Try.prog 18 #[.agg #[.slice x.sa x.sl x.sc, .slice x.ca x.cl x.cc], .agg #[.slice g.sa g.sl g.sc, .slice g.ca g.cl g.cc], .int .i64 k, .int .i64 0, .int .i64 tt] w (TRes w (mjoinR k (cbackL (pr x) (pr g) k 0 tt))) := by
  have e0' : ((0 : Nat) : Int) = 0 := rfl
  have hn1 := hN.x1
  have hsum : ((cbackL (pr x) (pr g) k 0 tt).map fun q => q.2.length).sum ≤ 1000 := by
    have e := cback_ok (x := pr x) (g := pr g) hN hx (f := 0) (t := tt) (by omega) (by omega) hgo he
    try simp only [e0'] at e
    have e2 := mjoin_sum (side := (k : Int)) (l := cbackL (pr x) (pr g) k 0 tt) (by rw [e])
    rw [e2, e]
    have hgl := okP_len (p := pr g) (k := k) (x := tt - 0) (P := P) (M := M) (by show NumT g.ss k (tt - 0) P M; rw [he]; exact (hN.set_le (rightT_parts hx).1 (y := tt - 0) (by omega) (by omega)).2) hgo
    have hxl := okP_len (p := pr x) hN hx
    have hxl2 : (pr x).2.length = x.cl := h.len
    show (spreadP (pr g).2 (0 * P) ((tt - 0) * P) ((n - tt) * P) M).length ≤ 1000
    rw [parts_cells (x := pr x) (fr := 0) (tt := tt) hN (by omega) (by omega) hgl]
    omega
  have hcut := cutR_at (p := pr x) hN hx (fr := 0) (tt := tt) (by omega) (by omega)
  try simp only [e0'] at hcut
  have hr := (rightT_parts hx).1
  have hkl : k < x.sl := by have := hN.len; have := h.slen; omega
  obtain ⟨sb, so, hsa, hsc⟩ := ints_cell h.1.1 (by omega)
  have HSC := Lib.hid (fun w1 (hb : Below w.heap.size w w1) => cell_later hb (hsc k hkl))
  rw [hN.xE] at HSC
  have hgl2 : Lies g 0 w.heap.size := hg.lt (by have := hgo; rw [hg.ok] at this; exact this)
  have HGL := Lib.hid hgl2
  obtain ⟨L, hL0⟩ : ∃ L, cbackL (pr x) (pr g) k 0 tt = L := ⟨_, rfl⟩
  have HL0 := Lib.hid hL0
  rw [hL0] at hsum ⊢
  have HSUM := Lib.hid hsum
  have hpn : (prodI x.ss).toNat ≤ 2000 := by
    have hxl := okP_len (p := pr x) hN hx
    have hxl2 : (pr x).2.length = x.cl := h.len
    have := hN.all
    omega
  obtain ⟨wA, hwA, J1, z1, n1⟩ := grid_box w (.slice x.sa x.sl x.sc) (.slice x.ca x.cl x.cc)
  obtain ⟨wC, hwC, J3, z3, n3⟩ := grid_box wA (.slice g.sa g.sl g.sc) (.slice g.ca g.cl g.cc)
  obtain ⟨wB, hwB, J2, z2, n2⟩ := grid_box wC (.slice none 0 0) (.slice none 0 0)
  rw [n1.out] at J3
  rw [n3.out, n1.out] at J2
  have z13 := z1.out.trans (z3.out.mono z1.out.size)
  have z := Lib.hid (z13.trans (z2.out.mono z13.size))
  have J := Lib.hid ((J1.out.kept z3.out).kept z2.out)
  have JG := Lib.hid (J3.out.kept z2.out)
  have hsz := Lib.hid (show w.heap.size + 1 + 1 < wB.heap.size by have := n1.out; have := n2.out; have := n3.out; omega)
  clear z13
  have C := mcut_any x k 0 tt wB (h.kept z.out) (by omega)
  obtain ⟨p1, hp1⟩ : ∃ p : Pr, (x.ss.set k ((tt - 0 : Nat) : Int), cutP x.cs (n * P) (0 * P) ((tt - 0) * P) M) = p := ⟨_, rfl⟩
  have hcut' : cutR (pr x) k 0 tt = (0, p1) := by rw [hcut, ← hp1]; rfl
  rw [hcut'] at C
  have hNN : (okP (pr g) && sameL g.ss p1.1) = true := by rw [hgo, ← hp1, he, sameL_self]; rfl
  have C1 := Lib.hid C
  have HG := Lib.hid (fun w1 (hb : Below w.heap.size w w1) => hg.kept hb)
  have HN := Lib.hid hNN
  have HM := Lib.hid (fun w1 (hb : Below w.heap.size w w1) => tmake_any x.sa x.sl x.sc x.ss w1 (h.kept hb).1.1 hr)
  have hxE := Lib.hid hN.xE
  obtain ⟨Zp, hZp⟩ : ∃ Z : Pr, (x.ss, List.replicate (prodI x.ss).toNat (0 : Int)) = Z := ⟨_, rfl⟩
  rw [hZp] at HM
  have HZp := Lib.hid hZp
  have hzl : Zp.2.length ≤ 2000 := by rw [← hZp]; simpa using hpn
  have hbx2 := Lib.hid h.1.2.2.1
  rw [hsa] at C1 J HM ⊢
  simp only [hsa] at hwA
  clear h hg C hcut hcut' hr hsc hgl2 hL0 hsum hpn hp1 hNN hZp hN hx hgo he J1 J3 hl e0'
  obtain ⟨j0, j1, -, -⟩ := J.out.see
  go_enter Try.func18, Try.ntmps18
  go_upto_region 1 with (fail)
  rw [hwA.out, hwC.out, hwB.out]
  go_wp2_with fail
  refine C1.out.mono ?_
  rintro e w2 ⟨t, rfl, hp, hG, hL, hb2⟩
  obtain ⟨w3, hw3, JT, zT, nT⟩ := grid_box w2 (.slice t.sa t.sl t.sc) (.slice t.ca t.cl t.cc)
  have b3 := hb2.trans (zT.out.mono hb2.size)
  have bz := Lib.hid (z.out.trans (b3.mono z.out.size))
  clear hb2
  have D := isgrad_any g t w3 (HG.out w3 bz.out) (hG.kept zT.out)
  have et : t.ss = p1.1 := by rw [← show pr t = p1 from hp]; rfl
  rw [et] at D
  have HN' := HN.out
  rw [HN'] at D
  have D1 := Lib.hid D
  have J5 := Lib.hid (J.out.kept b3)
  have J6 := Lib.hid (JG.out.kept b3)
  have J10 := Lib.hid (J2.out.kept b3)
  clear hp hG hL D et HN' j0 j1
  go_upto_region 2 with (fail)
  rw [hw3.out]
  obtain ⟨g0, g1, -, -⟩ := J6.out.see
  obtain ⟨t0, t1, -, -⟩ := JT.out.see
  go_wp2_with fail
  refine D1.out.mono ?_
  rintro e w4 ⟨rfl, hb4⟩
  have b4 := Lib.hid (bz.out.trans (hb4.mono bz.out.size))
  clear g0 g1 t0 t1
  obtain ⟨j0, j1, -, -⟩ := (J5.out.kept hb4).see
  go_wp2_with fail
  refine (HM.out w4 b4.out).mono ?_
  rintro e w5 ⟨Z, rfl, hpZ, hGZ, hLZ, hb5⟩
  obtain ⟨w6, hw6, JZ, zZ, nZ⟩ := grid_box w5 (.slice Z.sa Z.sl Z.sc) (.slice Z.ca Z.cl Z.cc)
  have b56 := hb5.trans (zZ.out.mono hb5.size)
  have b46 := hb4.trans (b56.mono hb4.size)
  have b6 := Lib.hid (b4.out.trans (b56.mono b4.out.size))
  have K5 := Lib.hid (J5.out.kept b46)
  have K6 := Lib.hid (J6.out.kept b46)
  have K10 := Lib.hid (J10.out.kept b46)
  have KZ := Lib.hid (hGZ.kept zZ.out)
  have hZl : Z.cl ≤ 2000 := by
    have e1 : Z.cs.length = Zp.2.length := by rw [← show pr Z = Zp from hpZ]; rfl
    have := hGZ.len
    omega
  have hpZ2 := Lib.hid (show pr Z = Zp from hpZ)
  have B6 : Hid (w.heap.size + 1 + 1 < w6.heap.size) := Lib.hid K10.out.lt
  have rf6 := Lib.hid (Below.refl w6.heap.size w6)
  clear j0 j1 hb4 hb5 b56 b46 hpZ hGZ hLZ J5 J6 J10 b3
  go_upto_region 7 with (fail)
  rw [hw6.out]
  have hlg := Lib.hid (fun q (hq : q ∈ tblocks g) => (⟨Nat.lt_of_lt_of_le (HGL.out q hq).2 (Nat.le_trans b6.out.size (Below.size rf6.out)), fun e => by have h1 := ((Parts.row (Parts.nil w6.heap.size w6)).lt q e).1; have h2 := (HGL.out q hq).2; have h3 := b6.out.size; omega⟩ : q < w6.heap.size ∧ (.slice none 0 0 : Value).ownBlock ≠ some q))
  obtain ⟨wk2, hwk2, JK2, zK2, nK2⟩ := grid_box w6 (.slice g.sa g.sl g.sc) (.slice g.ca g.cl g.cc)
  have hPK2 := Lib.hid (Parts.kept (Parts.nil w6.heap.size w6) zK2.out)
  have huK2 := Lib.hid (Good.kept (HG.out w6 (b6.out.trans (Below.mono rf6.out b6.out.size))) zK2.out)
  have hlK2 := Lib.hid (fun q (hq : q ∈ tblocks g) => (⟨Nat.lt_of_lt_of_le (hlg.out q hq).1 zK2.out.size, (hlg.out q hq).2⟩ : q < wk2.heap.size ∧ (.slice none 0 0 : Value).ownBlock ≠ some q))
  have bK2 := Lib.hid (Below.trans rf6.out (zK2.out.mono (Below.size rf6.out)))
  obtain ⟨g0, g1', -, -⟩ := (K6.out.kept rf6.out).see
  have hwk2' := hwk2.out
  go_wp2_with (at_builtin; refine wpList_append_part rfl _ _ rfl w6.heap.size (.slice none 0 0) 0 [] rfl hPK2.out g w6.heap.size rfl JK2.out huK2.out hlK2.out (by decide) bK2.out.size ?_)
  intro v2 wp2 hP2 hB2 hJ2 hs2
  have FP2 := Lib.hid hP2
  have FB2 := Lib.hid (hB2 w6 bK2.out (Nat.le_refl _))
  clear hP2 hB2 hJ2 hs2 hwk2' hPK2 huK2 hlK2 bK2
  clear g0 g1' hlg
  obtain ⟨j0, j1, -, -⟩ := (K5.out.kept FB2.out).see
  have hsk := HSC.out wp2 (b6.out.trans (Below.mono FB2.out b6.out.size))
  have hkl' : (k : Int) < x.sl := by omega
  have ht0' : (tt : Int) < (n : Int) := by omega
  have KC3 := tcut_any Z k tt n wp2 (KZ.out.kept FB2.out) hZl
  obtain ⟨r3, hr3⟩ : ∃ r, cutR (pr Z) k tt n = r := ⟨_, rfl⟩
  rw [hr3] at KC3
  have KD3 := Lib.hid KC3
  have HR3 := Lib.hid hr3
  clear KC3 hr3
  obtain ⟨z0, z1', -, -⟩ := (JZ.out.kept FB2.out).see
  go_wp2_with fail
  refine KD3.out.mono ?_
  rintro e wc3 ⟨E, rfl, hpE, hGE, hLE, hbc3⟩
  obtain ⟨wd3, hwd3, JB3, zB3, nB3⟩ := grid_box wc3 (.slice E.sa E.sl E.sc) (.slice E.ca E.cl E.cc)
  have bd3 := Below.trans hbc3 (zB3.out.mono hbc3.size)
  have be3 := Lib.hid (Below.trans FB2.out (bd3.mono (Below.size FB2.out)))
  have hPd3 := Lib.hid (Parts.kept FP2.out bd3)
  have hGd3 := Lib.hid (hGE.kept zB3.out)
  have hLd3 := Lib.hid (fun q (hq : q ∈ tblocks E) => (⟨Nat.lt_of_lt_of_le (hLE q hq).2 zB3.out.size, fun e => by
    have h1 := (Parts.row FP2.out).lt q e
    have h2 := (hLE q hq).1
    omega⟩ : q < wd3.heap.size ∧ (v2 : Value).ownBlock ≠ some q))
  have hpE2 := Lib.hid (show pr E = r3.2 from hpE)
  clear z0 z1' hpE hGE hLE hbc3 bd3
  go_upto_region 15 with (fail)
  rw [hwd3.out]
  obtain ⟨wk3, hwk3, JK3, zK3, nK3⟩ := grid_box wd3 (.slice E.sa E.sl E.sc) (.slice E.ca E.cl E.cc)
  have hPK3 := Lib.hid (Parts.kept hPd3.out zK3.out)
  have huK3 := Lib.hid (Good.kept hGd3.out zK3.out)
  have hlK3 := Lib.hid (fun q (hq : q ∈ tblocks E) => (⟨Nat.lt_of_lt_of_le (hLd3.out q hq).1 zK3.out.size, (hLd3.out q hq).2⟩ : q < wk3.heap.size ∧ (v2 : Value).ownBlock ≠ some q))
  have bK3 := Lib.hid (Below.trans be3.out (zK3.out.mono (Below.size be3.out)))
  obtain ⟨a0, a1, -, -⟩ := JB3.out.see
  have hwk3' := hwk3.out
  go_wp2_with (at_builtin; refine wpList_append_part rfl _ _ rfl w6.heap.size (v2) 1 ([] ++ [g]) rfl hPK3.out E wd3.heap.size rfl JK3.out huK3.out hlK3.out (by decide) bK3.out.size ?_)
  intro v3 wp3 hP3 hB3 hJ3 hs3
  have FP3 := Lib.hid hP3
  have FB3 := Lib.hid (hB3 w6 bK3.out (Nat.le_refl _))
  clear hP3 hB3 hJ3 hs3 hwk3' hPK3 huK3 hlK3 bK3
  clear a0 a1 hPd3 hGd3 hLd3 be3 j0 j1 hsk
  have hus : List.map pr [g, E] = L := by
    rw [← HL0.out]
    show [pr g, pr E] = _
    unfold cbackL
    rw [Int.toNat_natCast, show (pr x).1.getD k 0 = (n : Int) from hxE.out, if_neg (by decide : ¬ (0 : Int) < 0), if_pos (show (tt : Int) < (n : Int) by omega)]
    show _ = [pr g, (cutR (x.ss, List.replicate (prodI x.ss).toNat 0) k tt n).2]
    rw [HZp.out, ← hpZ2.out, HR3.out, hpE2.out]
  have hPF := FP3.out
  clear FP3
  obtain ⟨gF, cF, rfl⟩ := hPF.form (by decide)
  have hgs : Gsl wp3 (some ⟨gF, 0, none⟩) 2 cF [g, E] := Parts.gsl hPF (by decide)
  have CJ := mjoin_any k _ _ _ _ _ hgs (by rw [cl_sum (fun u hu => hgs.good hu), hus]; exact HSUM.out)
  rw [hus] at CJ
  have CJ2 := Lib.hid (CJ.mono fun _ _ h' => h'.mono FB3.out)
  clear hgs CJ hus hPF
  go_wp2_with fail
  refine CJ2.out.mono ?_
  rintro e w8 ⟨t8, rfl, hp8, hG8, hL8, hb8⟩
  obtain ⟨e0, e1, f0, f1⟩ := (K10.out.kept hb8).see
  obtain ⟨w9, hw9, q1, q2, q3, h0, h1⟩ := tres_put b6.out (show w.heap.size ≤ w.heap.size + 1 + 1 by omega) B6.out (K10.out.kept hb8) hG8 hL8 hb8
  clear hG8 hL8 hb8
  go_wp2_with fail
  rw [hw9.out]
  refine bodyPost_ret (v := .tuple #[.agg #[.slice t8.sa t8.sl t8.sc, .slice t8.ca t8.cl t8.cc], .int .i64 (mjoinR k L).1]) ?_ rfl ⟨t8, rfl, hp8, q1.out, q2.out, q3.out⟩
  simp [results, Try.results18, go_sem, h0, h1]

set_option maxRecDepth 100000 in
set_option maxHeartbeats 8000000 in
theorem cback_10 (x g : TV) (k n P M fr : Nat) (w : World) (h : Good x w) (hg : Good g w) (hl : x.cl ≤ 1000) (hN : NumT x.ss k n P M) (hx : okP (pr x) = true) (hgo : okP (pr g) = true) (he : g.ss = x.ss.set k ((n - fr : Nat) : Int)) (hf0 : 0 < fr) (hft : fr < n) :
    Calls Try.prog 18 #[.agg #[.slice x.sa x.sl x.sc, .slice x.ca x.cl x.cc], .agg #[.slice g.sa g.sl g.sc, .slice g.ca g.cl g.cc], .int .i64 k, .int .i64 fr, .int .i64 n] w (TRes w (mjoinR k (cbackL (pr x) (pr g) k fr n))) := by
  have e0' : ((0 : Nat) : Int) = 0 := rfl
  have hn1 := hN.x1
  have hsum : ((cbackL (pr x) (pr g) k fr n).map fun q => q.2.length).sum ≤ 1000 := by
    have e := cback_ok (x := pr x) (g := pr g) hN hx (f := fr) (t := n) (by omega) (by omega) hgo he
    try simp only [e0'] at e
    have e2 := mjoin_sum (side := (k : Int)) (l := cbackL (pr x) (pr g) k fr n) (by rw [e])
    rw [e2, e]
    have hgl := okP_len (p := pr g) (k := k) (x := n - fr) (P := P) (M := M) (by show NumT g.ss k (n - fr) P M; rw [he]; exact (hN.set_le (rightT_parts hx).1 (y := n - fr) (by omega) (by omega)).2) hgo
    have hxl := okP_len (p := pr x) hN hx
    have hxl2 : (pr x).2.length = x.cl := h.len
    show (spreadP (pr g).2 (fr * P) ((n - fr) * P) ((n - n) * P) M).length ≤ 1000
    rw [parts_cells (x := pr x) (fr := fr) (tt := n) hN (by omega) (by omega) hgl]
    omega
  have hcut := cutR_at (p := pr x) hN hx (fr := fr) (tt := n) (by omega) (by omega)
  try simp only [e0'] at hcut
  have hr := (rightT_parts hx).1
  have hkl : k < x.sl := by have := hN.len; have := h.slen; omega
  obtain ⟨sb, so, hsa, hsc⟩ := ints_cell h.1.1 (by omega)
  have HSC := Lib.hid (fun w1 (hb : Below w.heap.size w w1) => cell_later hb (hsc k hkl))
  rw [hN.xE] at HSC
  have hgl2 : Lies g 0 w.heap.size := hg.lt (by have := hgo; rw [hg.ok] at this; exact this)
  have HGL := Lib.hid hgl2
  obtain ⟨L, hL0⟩ : ∃ L, cbackL (pr x) (pr g) k fr n = L := ⟨_, rfl⟩
  have HL0 := Lib.hid hL0
  rw [hL0] at hsum ⊢
  have HSUM := Lib.hid hsum
  have hpn : (prodI x.ss).toNat ≤ 2000 := by
    have hxl := okP_len (p := pr x) hN hx
    have hxl2 : (pr x).2.length = x.cl := h.len
    have := hN.all
    omega
  obtain ⟨wA, hwA, J1, z1, n1⟩ := grid_box w (.slice x.sa x.sl x.sc) (.slice x.ca x.cl x.cc)
  obtain ⟨wC, hwC, J3, z3, n3⟩ := grid_box wA (.slice g.sa g.sl g.sc) (.slice g.ca g.cl g.cc)
  obtain ⟨wB, hwB, J2, z2, n2⟩ := grid_box wC (.slice none 0 0) (.slice none 0 0)
  rw [n1.out] at J3
  rw [n3.out, n1.out] at J2
  have z13 := z1.out.trans (z3.out.mono z1.out.size)
  have z := Lib.hid (z13.trans (z2.out.mono z13.size))
  have J := Lib.hid ((J1.out.kept z3.out).kept z2.out)
  have JG := Lib.hid (J3.out.kept z2.out)
  have hsz := Lib.hid (show w.heap.size + 1 + 1 < wB.heap.size by have := n1.out; have := n2.out; have := n3.out; omega)
  clear z13
  have C := mcut_any x k fr n wB (h.kept z.out) (by omega)
  obtain ⟨p1, hp1⟩ : ∃ p : Pr, (x.ss.set k ((n - fr : Nat) : Int), cutP x.cs (n * P) (fr * P) ((n - fr) * P) M) = p := ⟨_, rfl⟩
  have hcut' : cutR (pr x) k fr n = (0, p1) := by rw [hcut, ← hp1]; rfl
  rw [hcut'] at C
  have hNN : (okP (pr g) && sameL g.ss p1.1) = true := by rw [hgo, ← hp1, he, sameL_self]; rfl
  have C1 := Lib.hid C
  have HG := Lib.hid (fun w1 (hb : Below w.heap.size w w1) => hg.kept hb)
  have HN := Lib.hid hNN
  have HM := Lib.hid (fun w1 (hb : Below w.heap.size w w1) => tmake_any x.sa x.sl x.sc x.ss w1 (h.kept hb).1.1 hr)
  have hxE := Lib.hid hN.xE
  obtain ⟨Zp, hZp⟩ : ∃ Z : Pr, (x.ss, List.replicate (prodI x.ss).toNat (0 : Int)) = Z := ⟨_, rfl⟩
  rw [hZp] at HM
  have HZp := Lib.hid hZp
  have hzl : Zp.2.length ≤ 2000 := by rw [← hZp]; simpa using hpn
  have hbx2 := Lib.hid h.1.2.2.1
  rw [hsa] at C1 J HM ⊢
  simp only [hsa] at hwA
  clear h hg C hcut hcut' hr hsc hgl2 hL0 hsum hpn hp1 hNN hZp hN hx hgo he J1 J3 hl e0'
  obtain ⟨j0, j1, -, -⟩ := J.out.see
  go_enter Try.func18, Try.ntmps18
  go_upto_region 1 with (fail)
  rw [hwA.out, hwC.out, hwB.out]
  go_wp2_with fail
  refine C1.out.mono ?_
  rintro e w2 ⟨t, rfl, hp, hG, hL, hb2⟩
  obtain ⟨w3, hw3, JT, zT, nT⟩ := grid_box w2 (.slice t.sa t.sl t.sc) (.slice t.ca t.cl t.cc)
  have b3 := hb2.trans (zT.out.mono hb2.size)
  have bz := Lib.hid (z.out.trans (b3.mono z.out.size))
  clear hb2
  have D := isgrad_any g t w3 (HG.out w3 bz.out) (hG.kept zT.out)
  have et : t.ss = p1.1 := by rw [← show pr t = p1 from hp]; rfl
  rw [et] at D
  have HN' := HN.out
  rw [HN'] at D
  have D1 := Lib.hid D
  have J5 := Lib.hid (J.out.kept b3)
  have J6 := Lib.hid (JG.out.kept b3)
  have J10 := Lib.hid (J2.out.kept b3)
  clear hp hG hL D et HN' j0 j1
  go_upto_region 2 with (fail)
  rw [hw3.out]
  obtain ⟨g0, g1, -, -⟩ := J6.out.see
  obtain ⟨t0, t1, -, -⟩ := JT.out.see
  go_wp2_with fail
  refine D1.out.mono ?_
  rintro e w4 ⟨rfl, hb4⟩
  have b4 := Lib.hid (bz.out.trans (hb4.mono bz.out.size))
  clear g0 g1 t0 t1
  obtain ⟨j0, j1, -, -⟩ := (J5.out.kept hb4).see
  go_wp2_with fail
  refine (HM.out w4 b4.out).mono ?_
  rintro e w5 ⟨Z, rfl, hpZ, hGZ, hLZ, hb5⟩
  obtain ⟨w6, hw6, JZ, zZ, nZ⟩ := grid_box w5 (.slice Z.sa Z.sl Z.sc) (.slice Z.ca Z.cl Z.cc)
  have b56 := hb5.trans (zZ.out.mono hb5.size)
  have b46 := hb4.trans (b56.mono hb4.size)
  have b6 := Lib.hid (b4.out.trans (b56.mono b4.out.size))
  have K5 := Lib.hid (J5.out.kept b46)
  have K6 := Lib.hid (J6.out.kept b46)
  have K10 := Lib.hid (J10.out.kept b46)
  have KZ := Lib.hid (hGZ.kept zZ.out)
  have hZl : Z.cl ≤ 2000 := by
    have e1 : Z.cs.length = Zp.2.length := by rw [← show pr Z = Zp from hpZ]; rfl
    have := hGZ.len
    omega
  have hpZ2 := Lib.hid (show pr Z = Zp from hpZ)
  have B6 : Hid (w.heap.size + 1 + 1 < w6.heap.size) := Lib.hid K10.out.lt
  have rf6 := Lib.hid (Below.refl w6.heap.size w6)
  clear j0 j1 hb4 hb5 b56 b46 hpZ hGZ hLZ J5 J6 J10 b3
  go_upto_region 7 with (fail)
  rw [hw6.out]
  have hf0' : (0 : Int) < (fr : Int) := by omega
  have KC1 := tcut_any Z k 0 fr w6 (KZ.out.kept rf6.out) hZl
  obtain ⟨r1, hr1⟩ : ∃ r, cutR (pr Z) k 0 fr = r := ⟨_, rfl⟩
  rw [hr1] at KC1
  have KD1 := Lib.hid KC1
  have HR1 := Lib.hid hr1
  clear KC1 hr1
  obtain ⟨z0, z1', -, -⟩ := (JZ.out.kept rf6.out).see
  go_wp2_with fail
  refine KD1.out.mono ?_
  rintro e wc1 ⟨A, rfl, hpA, hGA, hLA, hbc1⟩
  obtain ⟨wd1, hwd1, JB1, zB1, nB1⟩ := grid_box wc1 (.slice A.sa A.sl A.sc) (.slice A.ca A.cl A.cc)
  have bd1 := Below.trans hbc1 (zB1.out.mono hbc1.size)
  have be1 := Lib.hid (Below.trans rf6.out (bd1.mono (Below.size rf6.out)))
  have hPd1 := Lib.hid (Parts.kept (Parts.nil w6.heap.size w6) bd1)
  have hGd1 := Lib.hid (hGA.kept zB1.out)
  have hLd1 := Lib.hid (fun q (hq : q ∈ tblocks A) => (⟨Nat.lt_of_lt_of_le (hLA q hq).2 zB1.out.size, fun e => by
    have h1 := (Parts.row (Parts.nil w6.heap.size w6)).lt q e
    have h2 := (hLA q hq).1
    omega⟩ : q < wd1.heap.size ∧ (.slice none 0 0 : Value).ownBlock ≠ some q))
  have hpA2 := Lib.hid (show pr A = r1.2 from hpA)
  clear z0 z1' hpA hGA hLA hbc1 bd1
  go_upto_region 10 with (fail)
  rw [hwd1.out]
  obtain ⟨wk1, hwk1, JK1, zK1, nK1⟩ := grid_box wd1 (.slice A.sa A.sl A.sc) (.slice A.ca A.cl A.cc)
  have hPK1 := Lib.hid (Parts.kept hPd1.out zK1.out)
  have huK1 := Lib.hid (Good.kept hGd1.out zK1.out)
  have hlK1 := Lib.hid (fun q (hq : q ∈ tblocks A) => (⟨Nat.lt_of_lt_of_le (hLd1.out q hq).1 zK1.out.size, (hLd1.out q hq).2⟩ : q < wk1.heap.size ∧ (.slice none 0 0 : Value).ownBlock ≠ some q))
  have bK1 := Lib.hid (Below.trans be1.out (zK1.out.mono (Below.size be1.out)))
  obtain ⟨a0, a1, -, -⟩ := JB1.out.see
  have hwk1' := hwk1.out
  go_wp2_with (at_builtin; refine wpList_append_part rfl _ _ rfl w6.heap.size (.slice none 0 0) 0 [] rfl hPK1.out A wd1.heap.size rfl JK1.out huK1.out hlK1.out (by decide) bK1.out.size ?_)
  intro v1 wp1 hP1 hB1 hJ1 hs1
  have FP1 := Lib.hid hP1
  have FB1 := Lib.hid (hB1 w6 bK1.out (Nat.le_refl _))
  clear hP1 hB1 hJ1 hs1 hwk1' hPK1 huK1 hlK1 bK1
  clear a0 a1 hPd1 hGd1 hLd1 be1
  have hlg := Lib.hid (fun q (hq : q ∈ tblocks g) => (⟨Nat.lt_of_lt_of_le (HGL.out q hq).2 (Nat.le_trans b6.out.size (Below.size FB1.out)), fun e => by have h1 := ((Parts.row FP1.out).lt q e).1; have h2 := (HGL.out q hq).2; have h3 := b6.out.size; omega⟩ : q < wp1.heap.size ∧ (v1 : Value).ownBlock ≠ some q))
  obtain ⟨wk2, hwk2, JK2, zK2, nK2⟩ := grid_box wp1 (.slice g.sa g.sl g.sc) (.slice g.ca g.cl g.cc)
  have hPK2 := Lib.hid (Parts.kept FP1.out zK2.out)
  have huK2 := Lib.hid (Good.kept (HG.out wp1 (b6.out.trans (Below.mono FB1.out b6.out.size))) zK2.out)
  have hlK2 := Lib.hid (fun q (hq : q ∈ tblocks g) => (⟨Nat.lt_of_lt_of_le (hlg.out q hq).1 zK2.out.size, (hlg.out q hq).2⟩ : q < wk2.heap.size ∧ (v1 : Value).ownBlock ≠ some q))
  have bK2 := Lib.hid (Below.trans FB1.out (zK2.out.mono (Below.size FB1.out)))
  obtain ⟨g0, g1', -, -⟩ := (K6.out.kept FB1.out).see
  have hwk2' := hwk2.out
  go_wp2_with (at_builtin; refine wpList_append_part rfl _ _ rfl w6.heap.size (v1) 1 ([] ++ [A]) rfl hPK2.out g wp1.heap.size rfl JK2.out huK2.out hlK2.out (by decide) bK2.out.size ?_)
  intro v2 wp2 hP2 hB2 hJ2 hs2
  have FP2 := Lib.hid hP2
  have FB2 := Lib.hid (hB2 w6 bK2.out (Nat.le_refl _))
  clear hP2 hB2 hJ2 hs2 hwk2' hPK2 huK2 hlK2 bK2
  clear g0 g1' hlg
  obtain ⟨j0, j1, -, -⟩ := (K5.out.kept FB2.out).see
  have hsk := HSC.out wp2 (b6.out.trans (Below.mono FB2.out b6.out.size))
  have hkl' : (k : Int) < x.sl := by omega
  have hus : List.map pr [A, g] = L := by
    rw [← HL0.out]
    show [pr A, pr g] = _
    unfold cbackL
    rw [Int.toNat_natCast, show (pr x).1.getD k 0 = (n : Int) from hxE.out, if_pos (show (0 : Int) < (fr : Int) by omega), if_neg (by omega : ¬ (n : Int) < (n : Int))]
    show _ = [(cutR (x.ss, List.replicate (prodI x.ss).toNat 0) k 0 fr).2, pr g]
    rw [HZp.out, ← hpZ2.out, HR1.out, hpA2.out]
  have hPF := FP2.out
  clear FP2
  obtain ⟨gF, cF, rfl⟩ := hPF.form (by decide)
  have hgs : Gsl wp2 (some ⟨gF, 0, none⟩) 2 cF [A, g] := Parts.gsl hPF (by decide)
  have CJ := mjoin_any k _ _ _ _ _ hgs (by rw [cl_sum (fun u hu => hgs.good hu), hus]; exact HSUM.out)
  rw [hus] at CJ
  have CJ2 := Lib.hid (CJ.mono fun _ _ h' => h'.mono FB2.out)
  clear hgs CJ hus hPF
  go_wp2_with fail
  refine CJ2.out.mono ?_
  rintro e w8 ⟨t8, rfl, hp8, hG8, hL8, hb8⟩
  obtain ⟨e0, e1, f0, f1⟩ := (K10.out.kept hb8).see
  obtain ⟨w9, hw9, q1, q2, q3, h0, h1⟩ := tres_put b6.out (show w.heap.size ≤ w.heap.size + 1 + 1 by omega) B6.out (K10.out.kept hb8) hG8 hL8 hb8
  clear hG8 hL8 hb8
  go_wp2_with fail
  rw [hw9.out]
  refine bodyPost_ret (v := .tuple #[.agg #[.slice t8.sa t8.sl t8.sc, .slice t8.ca t8.cl t8.cc], .int .i64 (mjoinR k L).1]) ?_ rfl ⟨t8, rfl, hp8, q1.out, q2.out, q3.out⟩
  simp [results, Try.results18, go_sem, h0, h1]

set_option maxRecDepth 100000 in
set_option maxHeartbeats 8000000 in
theorem cback_11 (x g : TV) (k n P M fr tt : Nat) (w : World) (h : Good x w) (hg : Good g w) (hl : x.cl ≤ 1000) (hN : NumT x.ss k n P M) (hx : okP (pr x) = true) (hgo : okP (pr g) = true) (he : g.ss = x.ss.set k ((tt - fr : Nat) : Int)) (hf0 : 0 < fr) (ht0 : tt < n) (hft : fr < tt) :
    Calls Try.prog 18 #[.agg #[.slice x.sa x.sl x.sc, .slice x.ca x.cl x.cc], .agg #[.slice g.sa g.sl g.sc, .slice g.ca g.cl g.cc], .int .i64 k, .int .i64 fr, .int .i64 tt] w (TRes w (mjoinR k (cbackL (pr x) (pr g) k fr tt))) := by
  have e0' : ((0 : Nat) : Int) = 0 := rfl
  have hn1 := hN.x1
  have hsum : ((cbackL (pr x) (pr g) k fr tt).map fun q => q.2.length).sum ≤ 1000 := by
    have e := cback_ok (x := pr x) (g := pr g) hN hx (f := fr) (t := tt) (by omega) (by omega) hgo he
    try simp only [e0'] at e
    have e2 := mjoin_sum (side := (k : Int)) (l := cbackL (pr x) (pr g) k fr tt) (by rw [e])
    rw [e2, e]
    have hgl := okP_len (p := pr g) (k := k) (x := tt - fr) (P := P) (M := M) (by show NumT g.ss k (tt - fr) P M; rw [he]; exact (hN.set_le (rightT_parts hx).1 (y := tt - fr) (by omega) (by omega)).2) hgo
    have hxl := okP_len (p := pr x) hN hx
    have hxl2 : (pr x).2.length = x.cl := h.len
    show (spreadP (pr g).2 (fr * P) ((tt - fr) * P) ((n - tt) * P) M).length ≤ 1000
    rw [parts_cells (x := pr x) (fr := fr) (tt := tt) hN (by omega) (by omega) hgl]
    omega
  have hcut := cutR_at (p := pr x) hN hx (fr := fr) (tt := tt) (by omega) (by omega)
  try simp only [e0'] at hcut
  have hr := (rightT_parts hx).1
  have hkl : k < x.sl := by have := hN.len; have := h.slen; omega
  obtain ⟨sb, so, hsa, hsc⟩ := ints_cell h.1.1 (by omega)
  have HSC := Lib.hid (fun w1 (hb : Below w.heap.size w w1) => cell_later hb (hsc k hkl))
  rw [hN.xE] at HSC
  have hgl2 : Lies g 0 w.heap.size := hg.lt (by have := hgo; rw [hg.ok] at this; exact this)
  have HGL := Lib.hid hgl2
  obtain ⟨L, hL0⟩ : ∃ L, cbackL (pr x) (pr g) k fr tt = L := ⟨_, rfl⟩
  have HL0 := Lib.hid hL0
  rw [hL0] at hsum ⊢
  have HSUM := Lib.hid hsum
  have hpn : (prodI x.ss).toNat ≤ 2000 := by
    have hxl := okP_len (p := pr x) hN hx
    have hxl2 : (pr x).2.length = x.cl := h.len
    have := hN.all
    omega
  obtain ⟨wA, hwA, J1, z1, n1⟩ := grid_box w (.slice x.sa x.sl x.sc) (.slice x.ca x.cl x.cc)
  obtain ⟨wC, hwC, J3, z3, n3⟩ := grid_box wA (.slice g.sa g.sl g.sc) (.slice g.ca g.cl g.cc)
  obtain ⟨wB, hwB, J2, z2, n2⟩ := grid_box wC (.slice none 0 0) (.slice none 0 0)
  rw [n1.out] at J3
  rw [n3.out, n1.out] at J2
  have z13 := z1.out.trans (z3.out.mono z1.out.size)
  have z := Lib.hid (z13.trans (z2.out.mono z13.size))
  have J := Lib.hid ((J1.out.kept z3.out).kept z2.out)
  have JG := Lib.hid (J3.out.kept z2.out)
  have hsz := Lib.hid (show w.heap.size + 1 + 1 < wB.heap.size by have := n1.out; have := n2.out; have := n3.out; omega)
  clear z13
  have C := mcut_any x k fr tt wB (h.kept z.out) (by omega)
  obtain ⟨p1, hp1⟩ : ∃ p : Pr, (x.ss.set k ((tt - fr : Nat) : Int), cutP x.cs (n * P) (fr * P) ((tt - fr) * P) M) = p := ⟨_, rfl⟩
  have hcut' : cutR (pr x) k fr tt = (0, p1) := by rw [hcut, ← hp1]; rfl
  rw [hcut'] at C
  have hNN : (okP (pr g) && sameL g.ss p1.1) = true := by rw [hgo, ← hp1, he, sameL_self]; rfl
  have C1 := Lib.hid C
  have HG := Lib.hid (fun w1 (hb : Below w.heap.size w w1) => hg.kept hb)
  have HN := Lib.hid hNN
  have HM := Lib.hid (fun w1 (hb : Below w.heap.size w w1) => tmake_any x.sa x.sl x.sc x.ss w1 (h.kept hb).1.1 hr)
  have hxE := Lib.hid hN.xE
  obtain ⟨Zp, hZp⟩ : ∃ Z : Pr, (x.ss, List.replicate (prodI x.ss).toNat (0 : Int)) = Z := ⟨_, rfl⟩
  rw [hZp] at HM
  have HZp := Lib.hid hZp
  have hzl : Zp.2.length ≤ 2000 := by rw [← hZp]; simpa using hpn
  have hbx2 := Lib.hid h.1.2.2.1
  rw [hsa] at C1 J HM ⊢
  simp only [hsa] at hwA
  clear h hg C hcut hcut' hr hsc hgl2 hL0 hsum hpn hp1 hNN hZp hN hx hgo he J1 J3 hl e0'
  obtain ⟨j0, j1, -, -⟩ := J.out.see
  go_enter Try.func18, Try.ntmps18
  go_upto_region 1 with (fail)
  rw [hwA.out, hwC.out, hwB.out]
  go_wp2_with fail
  refine C1.out.mono ?_
  rintro e w2 ⟨t, rfl, hp, hG, hL, hb2⟩
  obtain ⟨w3, hw3, JT, zT, nT⟩ := grid_box w2 (.slice t.sa t.sl t.sc) (.slice t.ca t.cl t.cc)
  have b3 := hb2.trans (zT.out.mono hb2.size)
  have bz := Lib.hid (z.out.trans (b3.mono z.out.size))
  clear hb2
  have D := isgrad_any g t w3 (HG.out w3 bz.out) (hG.kept zT.out)
  have et : t.ss = p1.1 := by rw [← show pr t = p1 from hp]; rfl
  rw [et] at D
  have HN' := HN.out
  rw [HN'] at D
  have D1 := Lib.hid D
  have J5 := Lib.hid (J.out.kept b3)
  have J6 := Lib.hid (JG.out.kept b3)
  have J10 := Lib.hid (J2.out.kept b3)
  clear hp hG hL D et HN' j0 j1
  go_upto_region 2 with (fail)
  rw [hw3.out]
  obtain ⟨g0, g1, -, -⟩ := J6.out.see
  obtain ⟨t0, t1, -, -⟩ := JT.out.see
  go_wp2_with fail
  refine D1.out.mono ?_
  rintro e w4 ⟨rfl, hb4⟩
  have b4 := Lib.hid (bz.out.trans (hb4.mono bz.out.size))
  clear g0 g1 t0 t1
  obtain ⟨j0, j1, -, -⟩ := (J5.out.kept hb4).see
  go_wp2_with fail
  refine (HM.out w4 b4.out).mono ?_
  rintro e w5 ⟨Z, rfl, hpZ, hGZ, hLZ, hb5⟩
  obtain ⟨w6, hw6, JZ, zZ, nZ⟩ := grid_box w5 (.slice Z.sa Z.sl Z.sc) (.slice Z.ca Z.cl Z.cc)
  have b56 := hb5.trans (zZ.out.mono hb5.size)
  have b46 := hb4.trans (b56.mono hb4.size)
  have b6 := Lib.hid (b4.out.trans (b56.mono b4.out.size))
  have K5 := Lib.hid (J5.out.kept b46)
  have K6 := Lib.hid (J6.out.kept b46)
  have K10 := Lib.hid (J10.out.kept b46)
  have KZ := Lib.hid (hGZ.kept zZ.out)
  have hZl : Z.cl ≤ 2000 := by
    have e1 : Z.cs.length = Zp.2.length := by rw [← show pr Z = Zp from hpZ]; rfl
    have := hGZ.len
    omega
  have hpZ2 := Lib.hid (show pr Z = Zp from hpZ)
  have B6 : Hid (w.heap.size + 1 + 1 < w6.heap.size) := Lib.hid K10.out.lt
  have rf6 := Lib.hid (Below.refl w6.heap.size w6)
  clear j0 j1 hb4 hb5 b56 b46 hpZ hGZ hLZ J5 J6 J10 b3
  go_upto_region 7 with (fail)
  rw [hw6.out]
  have hf0' : (0 : Int) < (fr : Int) := by omega
  have KC1 := tcut_any Z k 0 fr w6 (KZ.out.kept rf6.out) hZl
  obtain ⟨r1, hr1⟩ : ∃ r, cutR (pr Z) k 0 fr = r := ⟨_, rfl⟩
  rw [hr1] at KC1
  have KD1 := Lib.hid KC1
  have HR1 := Lib.hid hr1
  clear KC1 hr1
  obtain ⟨z0, z1', -, -⟩ := (JZ.out.kept rf6.out).see
  go_wp2_with fail
  refine KD1.out.mono ?_
  rintro e wc1 ⟨A, rfl, hpA, hGA, hLA, hbc1⟩
  obtain ⟨wd1, hwd1, JB1, zB1, nB1⟩ := grid_box wc1 (.slice A.sa A.sl A.sc) (.slice A.ca A.cl A.cc)
  have bd1 := Below.trans hbc1 (zB1.out.mono hbc1.size)
  have be1 := Lib.hid (Below.trans rf6.out (bd1.mono (Below.size rf6.out)))
  have hPd1 := Lib.hid (Parts.kept (Parts.nil w6.heap.size w6) bd1)
  have hGd1 := Lib.hid (hGA.kept zB1.out)
  have hLd1 := Lib.hid (fun q (hq : q ∈ tblocks A) => (⟨Nat.lt_of_lt_of_le (hLA q hq).2 zB1.out.size, fun e => by
    have h1 := (Parts.row (Parts.nil w6.heap.size w6)).lt q e
    have h2 := (hLA q hq).1
    omega⟩ : q < wd1.heap.size ∧ (.slice none 0 0 : Value).ownBlock ≠ some q))
  have hpA2 := Lib.hid (show pr A = r1.2 from hpA)
  clear z0 z1' hpA hGA hLA hbc1 bd1
  go_upto_region 10 with (fail)
  rw [hwd1.out]
  obtain ⟨wk1, hwk1, JK1, zK1, nK1⟩ := grid_box wd1 (.slice A.sa A.sl A.sc) (.slice A.ca A.cl A.cc)
  have hPK1 := Lib.hid (Parts.kept hPd1.out zK1.out)
  have huK1 := Lib.hid (Good.kept hGd1.out zK1.out)
  have hlK1 := Lib.hid (fun q (hq : q ∈ tblocks A) => (⟨Nat.lt_of_lt_of_le (hLd1.out q hq).1 zK1.out.size, (hLd1.out q hq).2⟩ : q < wk1.heap.size ∧ (.slice none 0 0 : Value).ownBlock ≠ some q))
  have bK1 := Lib.hid (Below.trans be1.out (zK1.out.mono (Below.size be1.out)))
  obtain ⟨a0, a1, -, -⟩ := JB1.out.see
  have hwk1' := hwk1.out
  go_wp2_with (at_builtin; refine wpList_append_part rfl _ _ rfl w6.heap.size (.slice none 0 0) 0 [] rfl hPK1.out A wd1.heap.size rfl JK1.out huK1.out hlK1.out (by decide) bK1.out.size ?_)
  intro v1 wp1 hP1 hB1 hJ1 hs1
  have FP1 := Lib.hid hP1
  have FB1 := Lib.hid (hB1 w6 bK1.out (Nat.le_refl _))
  clear hP1 hB1 hJ1 hs1 hwk1' hPK1 huK1 hlK1 bK1
  clear a0 a1 hPd1 hGd1 hLd1 be1
  have hlg := Lib.hid (fun q (hq : q ∈ tblocks g) => (⟨Nat.lt_of_lt_of_le (HGL.out q hq).2 (Nat.le_trans b6.out.size (Below.size FB1.out)), fun e => by have h1 := ((Parts.row FP1.out).lt q e).1; have h2 := (HGL.out q hq).2; have h3 := b6.out.size; omega⟩ : q < wp1.heap.size ∧ (v1 : Value).ownBlock ≠ some q))
  obtain ⟨wk2, hwk2, JK2, zK2, nK2⟩ := grid_box wp1 (.slice g.sa g.sl g.sc) (.slice g.ca g.cl g.cc)
  have hPK2 := Lib.hid (Parts.kept FP1.out zK2.out)
  have huK2 := Lib.hid (Good.kept (HG.out wp1 (b6.out.trans (Below.mono FB1.out b6.out.size))) zK2.out)
  have hlK2 := Lib.hid (fun q (hq : q ∈ tblocks g) => (⟨Nat.lt_of_lt_of_le (hlg.out q hq).1 zK2.out.size, (hlg.out q hq).2⟩ : q < wk2.heap.size ∧ (v1 : Value).ownBlock ≠ some q))
  have bK2 := Lib.hid (Below.trans FB1.out (zK2.out.mono (Below.size FB1.out)))
  obtain ⟨g0, g1', -, -⟩ := (K6.out.kept FB1.out).see
  have hwk2' := hwk2.out
  go_wp2_with (at_builtin; refine wpList_append_part rfl _ _ rfl w6.heap.size (v1) 1 ([] ++ [A]) rfl hPK2.out g wp1.heap.size rfl JK2.out huK2.out hlK2.out (by decide) bK2.out.size ?_)
  intro v2 wp2 hP2 hB2 hJ2 hs2
  have FP2 := Lib.hid hP2
  have FB2 := Lib.hid (hB2 w6 bK2.out (Nat.le_refl _))
  clear hP2 hB2 hJ2 hs2 hwk2' hPK2 huK2 hlK2 bK2
  clear g0 g1' hlg
  obtain ⟨j0, j1, -, -⟩ := (K5.out.kept FB2.out).see
  have hsk := HSC.out wp2 (b6.out.trans (Below.mono FB2.out b6.out.size))
  have hkl' : (k : Int) < x.sl := by omega
  have ht0' : (tt : Int) < (n : Int) := by omega
  have KC3 := tcut_any Z k tt n wp2 (KZ.out.kept FB2.out) hZl
  obtain ⟨r3, hr3⟩ : ∃ r, cutR (pr Z) k tt n = r := ⟨_, rfl⟩
  rw [hr3] at KC3
  have KD3 := Lib.hid KC3
  have HR3 := Lib.hid hr3
  clear KC3 hr3
  obtain ⟨z0, z1', -, -⟩ := (JZ.out.kept FB2.out).see
  go_wp2_with fail
  refine KD3.out.mono ?_
  rintro e wc3 ⟨E, rfl, hpE, hGE, hLE, hbc3⟩
  obtain ⟨wd3, hwd3, JB3, zB3, nB3⟩ := grid_box wc3 (.slice E.sa E.sl E.sc) (.slice E.ca E.cl E.cc)
  have bd3 := Below.trans hbc3 (zB3.out.mono hbc3.size)
  have be3 := Lib.hid (Below.trans FB2.out (bd3.mono (Below.size FB2.out)))
  have hPd3 := Lib.hid (Parts.kept FP2.out bd3)
  have hGd3 := Lib.hid (hGE.kept zB3.out)
  have hLd3 := Lib.hid (fun q (hq : q ∈ tblocks E) => (⟨Nat.lt_of_lt_of_le (hLE q hq).2 zB3.out.size, fun e => by
    have h1 := (Parts.row FP2.out).lt q e
    have h2 := (hLE q hq).1
    omega⟩ : q < wd3.heap.size ∧ (v2 : Value).ownBlock ≠ some q))
  have hpE2 := Lib.hid (show pr E = r3.2 from hpE)
  clear z0 z1' hpE hGE hLE hbc3 bd3
  go_upto_region 15 with (fail)
  rw [hwd3.out]
  obtain ⟨wk3, hwk3, JK3, zK3, nK3⟩ := grid_box wd3 (.slice E.sa E.sl E.sc) (.slice E.ca E.cl E.cc)
  have hPK3 := Lib.hid (Parts.kept hPd3.out zK3.out)
  have huK3 := Lib.hid (Good.kept hGd3.out zK3.out)
  have hlK3 := Lib.hid (fun q (hq : q ∈ tblocks E) => (⟨Nat.lt_of_lt_of_le (hLd3.out q hq).1 zK3.out.size, (hLd3.out q hq).2⟩ : q < wk3.heap.size ∧ (v2 : Value).ownBlock ≠ some q))
  have bK3 := Lib.hid (Below.trans be3.out (zK3.out.mono (Below.size be3.out)))
  obtain ⟨a0, a1, -, -⟩ := JB3.out.see
  have hwk3' := hwk3.out
  go_wp2_with (at_builtin; refine wpList_append_part rfl _ _ rfl w6.heap.size (v2) 2 (([] ++ [A]) ++ [g]) rfl hPK3.out E wd3.heap.size rfl JK3.out huK3.out hlK3.out (by decide) bK3.out.size ?_)
  intro v3 wp3 hP3 hB3 hJ3 hs3
  have FP3 := Lib.hid hP3
  have FB3 := Lib.hid (hB3 w6 bK3.out (Nat.le_refl _))
  clear hP3 hB3 hJ3 hs3 hwk3' hPK3 huK3 hlK3 bK3
  clear a0 a1 hPd3 hGd3 hLd3 be3 j0 j1 hsk
  have hus : List.map pr [A, g, E] = L := by
    rw [← HL0.out]
    show [pr A, pr g, pr E] = _
    unfold cbackL
    rw [Int.toNat_natCast, show (pr x).1.getD k 0 = (n : Int) from hxE.out, if_pos (show (0 : Int) < (fr : Int) by omega), if_pos (show (tt : Int) < (n : Int) by omega)]
    show _ = [(cutR (x.ss, List.replicate (prodI x.ss).toNat 0) k 0 fr).2, pr g, (cutR (x.ss, List.replicate (prodI x.ss).toNat 0) k tt n).2]
    rw [HZp.out, ← hpZ2.out, HR1.out, hpA2.out, HR3.out, hpE2.out]
  have hPF := FP3.out
  clear FP3
  obtain ⟨gF, cF, rfl⟩ := hPF.form (by decide)
  have hgs : Gsl wp3 (some ⟨gF, 0, none⟩) 3 cF [A, g, E] := Parts.gsl hPF (by decide)
  have CJ := mjoin_any k _ _ _ _ _ hgs (by rw [cl_sum (fun u hu => hgs.good hu), hus]; exact HSUM.out)
  rw [hus] at CJ
  have CJ2 := Lib.hid (CJ.mono fun _ _ h' => h'.mono FB3.out)
  clear hgs CJ hus hPF
  go_wp2_with fail
  refine CJ2.out.mono ?_
  rintro e w8 ⟨t8, rfl, hp8, hG8, hL8, hb8⟩
  obtain ⟨e0, e1, f0, f1⟩ := (K10.out.kept hb8).see
  obtain ⟨w9, hw9, q1, q2, q3, h0, h1⟩ := tres_put b6.out (show w.heap.size ≤ w.heap.size + 1 + 1 by omega) B6.out (K10.out.kept hb8) hG8 hL8 hb8
  clear hG8 hL8 hb8
  go_wp2_with fail
  rw [hw9.out]
  refine bodyPost_ret (v := .tuple #[.agg #[.slice t8.sa t8.sl t8.sc, .slice t8.ca t8.cl t8.cc], .int .i64 (mjoinR k L).1]) ?_ rfl ⟨t8, rfl, hp8, q1.out, q2.out, q3.out⟩
  simp [results, Try.results18, go_sem, h0, h1]

/-- What CutBack says of any tensors. -/
theorem cback_any (x g : TV) (side fr tt : Int) (w : World) (h : Good x w) (hg : Good g w) (hl : x.cl ≤ 1000) :
    Calls Try.prog 18 #[.agg #[.slice x.sa x.sl x.sc, .slice x.ca x.cl x.cc], .agg #[.slice g.sa g.sl g.sc, .slice g.ca g.cl g.cc], .int .i64 side, .int .i64 fr, .int .i64 tt] w (TRes w (cbackR (pr x) (pr g) side fr tt)) := by
  unfold cbackR
  by_cases c : (cutR (pr x) side fr tt).1 = 0
  case neg =>
    rw [if_pos c]
    exact cback_err x g side fr tt w h hl c
  rw [if_neg (by simpa using c)]
  cases d : (okP (pr g) && sameL g.ss (cutR (pr x) side fr tt).2.1)
  · rw [if_pos (by exact d)]
    exact cback_bad x g side fr tt w h hg hl c d
  · rw [if_neg (by show ¬ (okP (pr g) && sameL g.ss (cutR (pr x) side fr tt).2.1) = false; rw [d]; decide)]
    obtain ⟨k, n, P, M, f, u, rfl, rfl, rfl, hx, hN, hft, hun⟩ := cut_good c
    rw [cutR_at hN hx hft hun] at d
    simp only [Bool.and_eq_true] at d
    have he : g.ss = x.ss.set k ((u - f : Nat) : Int) := sameL_eq d.2
    have e0 : ((0 : Nat) : Int) = 0 := rfl
    rcases Nat.eq_zero_or_pos f with rfl | hf
    · rw [e0]
      by_cases hu : u < n
      · exact cback_01 x g k n P M u w h hg hl hN hx d.1 he hu hft
      · obtain rfl : u = n := by omega
        exact cback_00 x g k u P M w h hg hl hN hx d.1 he
    · by_cases hu : u < n
      · exact cback_11 x g k n P M f u w h hg hl hN hx d.1 he hf hu hft
      · obtain rfl : u = n := by omega
        exact cback_10 x g k u P M f w h hg hl hN hx d.1 he hf hft
end Go.Proofs.Ytieegaojcjhfdaa

