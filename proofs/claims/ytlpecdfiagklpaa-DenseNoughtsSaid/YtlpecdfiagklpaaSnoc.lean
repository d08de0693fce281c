/-
  Numbers appended one by one to a new row of 64-bit integers.
-/
import Derived.Test.YtlpecdfiagklpaaOwn
namespace Go.Proofs.Ytlpecdfiagklpaa
open Go.RowKit
set_option linter.unusedVariables false
set_option linter.unusedSimpArgs false

theorem i64Info : (Try.prog.info? 2).map (fun i => (i.zero, i.size, i.bytes)) = some (some (.int .i64 0), 1, 8) := by kernel_rfl

/-- One number more behind a new row of numbers. -/
theorem snoc_int (L : List Int) (x : Int) : (L ++ [x]).map (Value.int .i64) = L.map (Value.int .i64) ++ [Value.int .i64 x] := by simp
theorem box_cell (w : World) (x : Int) (t : TypeId) : ∀ j u, [Value.int .i64 x][j]? = some u → (w.alloc (.cells #[.int .i64 x] t)).cell? ((⟨w.heap.size, 0, none⟩ : Addr).add j) = some u := by
  intro j u hj
  match j, hj with
  | 0, hj =>
    simp at hj; subst hj
    rw [Addr.add_lit, World.cell?_alloc_at _ _ _ _ rfl]; rfl

theorem take_snoc {cs : List Int} (d c : Nat) (h : d + c < cs.length) : (cs.drop d).take (c + 1) = (cs.drop d).take c ++ [cs.getD (d + c) 0] := by
  rw [List.take_add_one, List.getElem?_drop]
  simp [List.getD, List.getElem?_eq_getElem h]

/-- What is to be appended lies in a new block. -/
structure Snoc (w0 wr : World) (x : Int) (L0 : List Value) (t : Value) (len : Nat) : Prop where
  row : (wr.alloc (.cells #[.int .i64 x] 2)).ownsRow w0.heap.size 2 1 t len L0
  new : ∀ j u, [Value.int .i64 x][j]? = some u → (wr.alloc (.cells #[.int .i64 x] 2)).cell? ((⟨wr.heap.size, 0, none⟩ : Addr).add j) = some u
  one : ∀ u ∈ [Value.int .i64 x], u.oneCell' = true
  room : len + 1 ≤ maxLen
  bytes : (len + 1) * 8 ≤ 140737488355328
  size : w0.heap.size ≤ (wr.alloc (.cells #[.int .i64 x] 2)).heap.size
theorem snoc_of {w0 wr : World} {L0 : List Value} {t : Value} {len : Nat} (x : Int) (h : wr.ownsRow w0.heap.size 2 1 t len L0) (hb : Below w0.heap.size w0 wr) (hl : len ≤ 1000) : Snoc w0 wr x L0 t len :=
  ⟨h.alloc _, box_cell wr x _, (by intro u hu; simp at hu; subst hu; rfl), by unfold maxLen; omega, by omega, by have := hb.size; simp; omega⟩
theorem snoc_below {w0 wr w5 : World} {L0 : List Value} {t : Value} {len : Nat} {x : Int} (h : wr.ownsRow w0.heap.size 2 1 t len L0) (hb : Below w0.heap.size w0 wr) (hg : (wr.alloc (.cells #[.int .i64 x] 2)).grownBy w5 t.ownBlock) : Below w0.heap.size w0 w5 :=
  (hb.alloc hb.size (.cells #[.int .i64 x] 2)).grown hg (by have := hb.size; simp; omega) (fun q' hq' => (h.lt q' hq').1)

end Go.Proofs.Ytlpecdfiagklpaa
