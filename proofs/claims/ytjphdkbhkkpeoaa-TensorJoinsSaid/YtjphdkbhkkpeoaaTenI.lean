/-
  Results of package tensor as lists, whatever the way: Make, Of, Copy.
-/
import Derived.Test.YtjphdkbhkkpeoaaAwake04
namespace Go.Proofs.Ytjphdkbhkkpeoaa
open Go.RowKit
set_option linter.unusedVariables false
set_option linter.unusedSimpArgs false

/-- A tensor of these lists and this error came back; all that was there before is as it was. -/
def ResT (w : World) (ss cs : List Int) (x : Int) (e : Ending) (w' : World) : Prop :=
  ∃ A n c A' n' c', e = .returned (.tuple #[.agg #[.slice A n c, .slice A' n' c'], .int .i64 x]) ∧ IntsAt w' A n ss ∧ IntsAt w' A' n' cs ∧ Below w.heap.size w w'
theorem ResT.of_nil {w : World} {x : Int} {e : Ending} {w' : World} (h : NilT w x e w') : ResT w [] [] x e w' :=
  ⟨none, 0, 0, none, 0, 0, h.1, IntsAt.nil _ _, IntsAt.nil _ _, h.2⟩
theorem ResT.of_ok {w : World} {sl cl : Nat} {ss cs : List Int} {e : Ending} {w' : World} (h : OkT w sl ss cl cs e w') (h1 : sl ≤ 9223372036854775807) (h2 : cl ≤ 9223372036854775807) (f1 : Fits ss) (f2 : Fits cs) : ResT w ss cs 0 e w' := by
  obtain ⟨v, rfl, A, c, A', c', rfl, o1, o2, -, hb⟩ := h
  exact ⟨A, sl, c, A', cl, c', rfl, row_ints o1 h1 f1, row_ints o2 h2 f2, hb⟩

def okL (b : Bool) (l : List Int) : List Int := if b = true then l else []
def okE (b : Bool) : Int := if b = true then 0 else 20

theorem make_any (sa : Option Addr) (sl sc : Nat) (ss : List Int) (x : Int) (w : World) (h : IntsAt w sa sl ss) (hx1 : -9223372036854775808 ≤ x) (hx2 : x ≤ 9223372036854775807) :
    Calls Try.prog 10 #[.slice sa sl sc, .int .i64 x] w (ResT w (okL (rightS ss) ss) (okL (rightS ss) (List.replicate (prodI ss).toNat x)) (okE (rightS ss))) := by
  cases b : rightS ss
  · exact (make_no sa sl sc ss x w h b).mono fun e w' h' => ResT.of_nil h'
  · have hp := prodI_pos (rightS_parts b).2.2.1
    have hq := (rightS_parts b).2.2.2
    exact (make_ok sa sl sc ss x w h b (prodI ss).toNat (by omega)).mono fun e w' h' => ResT.of_ok h' h.2.1 (by omega) h.2.2.1 (fun n hn => by rw [List.eq_of_mem_replicate hn]; exact ⟨hx1, hx2⟩)
theorem of_any (sa : Option Addr) (sl sc : Nat) (ss : List Int) (ca : Option Addr) (cl cc : Nat) (cs : List Int) (w : World) (h : IntsAt w sa sl ss) (hs : sl ≤ 1000) (hc : IntsAt w ca cl cs) (hl : cl ≤ 1000) :
    Calls Try.prog 11 #[.slice sa sl sc, .slice ca cl cc] w (ResT w (okL (rightT ss cl) ss) (okL (rightT ss cl) cs) (okE (rightT ss cl))) := by
  cases b : rightT ss cl
  · exact (of_no sa sl sc ss ca cl cc w h (by omega) b).mono fun e w' h' => ResT.of_nil h'
  · exact (of_ok sa sl sc ss ca cl cc cs w h hs hc hl b).mono fun e w' h' => ResT.of_ok h' h.2.1 hc.2.1 h.2.2.1 hc.2.2.1

/-- A new row of n numbers lies in block g if it lies anywhere. -/
theorem row_block {w : World} {B M : Nat} {e : TypeId} {A : Option Addr} {n c : Nat} {xs : List Value} (h : w.ownsRow B e 1 (.slice A n c) n xs) (hM : w.heap.size ≤ M) :
    ∃ g, (∀ q, A = some q → q = ⟨g, 0, none⟩) ∧ B ≤ max B g ∧ (A = none → g = M) ∧ (∀ q, A = some q → B ≤ g ∧ g < w.heap.size) := by
  rcases Joins.ownsRow_forms h with ⟨hv, -⟩ | ⟨g, cap, hv⟩
  · simp only [Value.slice.injEq] at hv
    obtain ⟨rfl, -, -⟩ := hv
    refine ⟨M, ?_, by omega, fun _ => rfl, ?_⟩ <;> (intro q hq; cases hq)
  · simp only [Value.slice.injEq] at hv
    obtain ⟨rfl, -, rfl⟩ := hv
    refine ⟨g, ?_, by omega, ?_, ?_⟩
    · intro q hq; cases hq; rfl
    · intro hq; cases hq
    · intro q hq; exact h.lt g rfl

theorem flipN {P : Program} {f : FuncId} {args : Array Value} {w : World} {n : Nat} {v : Value} (h : Calls P f args (w.drewN n) fun e w' => e = .returned v ∧ ∃ m, w' = (w.drewN n).drewN m) :
    Calls P f args (w.drewN n) fun e w' => e = .returned v ∧ ∃ m, w' = w.drewN m :=
  h.mono fun _ _ ⟨he, m, hm⟩ => ⟨he, n + m, by rw [hm, World.drewN_drewN]⟩

/-- Each cell one greater, as Go counts. -/
def incL (cs : List Int) : List Int := cs.map fun x => wrap64 (x + 1)
theorem incL_length (cs : List Int) : (incL cs).length = cs.length := by simp [incL]
theorem incL_get {cs : List Int} {k : Nat} (h : k < cs.length) : (incL cs).getD k 0 = wrap64 (cs.getD k 0 + 1) := by
  simp [incL, List.getD, List.getElem?_eq_getElem h]
end Go.Proofs.Ytjphdkbhkkpeoaa
