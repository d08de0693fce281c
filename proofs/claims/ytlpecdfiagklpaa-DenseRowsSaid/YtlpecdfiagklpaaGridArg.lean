/-
  A tensor as an argument.
-/
import Derived.Test.YtlpecdfiagklpaaTV
namespace Go.Proofs.Ytlpecdfiagklpaa
open Go.RowKit Go.ChangeShapes Go.WideShapes Go.Deep
set_option linter.unusedVariables false
set_option linter.unusedSimpArgs false

theorem grid_arg {H : Type} {enc : TypeId × Value → H} {w : World} {base : Nat} {spare : Nat → Bool} {held : Bool} {r : Reach} {b0 : Nat} {v : Value} {d : DataW H} {p : List MemPlace} (hv : Value.okWide Try.prog w r b0 26 v)
    (h : DataW.Trod enc Try.prog w base spare held 26 v d p) (hw : ∀ n ∈ d.weights Try.prog 26, n ≤ reachBytes) :
    ∃ t : TV, v = .agg #[.slice (TV.sa t) (TV.sl t) (TV.sc t), .slice (TV.ca t) (TV.cl t) (TV.cc t)] ∧ t.At w ∧ t.Cap := by
  obtain ⟨⟨l⟩, rfl, hsz⟩ := okWide_struct Try.underlying26 hv
  obtain ⟨fuel, hf⟩ := h
  replace hsz : l.length = Try.prog.cellsOf 26 := hsz
  rw [gcellsG] at hsz
  match l, hsz with
  | [c0, c1], _ =>
    obtain ⟨t, e0, e1, A, C⟩ := grid_one2 (x := (d, p)) hf hw
    subst e0 e1
    exact ⟨t, rfl, A, C⟩
end Go.Proofs.Ytlpecdfiagklpaa
