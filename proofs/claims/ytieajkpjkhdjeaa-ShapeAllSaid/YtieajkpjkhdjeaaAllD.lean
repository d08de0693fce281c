/-
  Package shape's All: the contract of its closure over any shape.
-/
import Derived.Test.YtieajkpjkhdjeaaAllC
import Derived.Test.YtieajkpjkhdjeaaIdxC
namespace Go.Proofs.Ytieajkpjkhdjeaa
open Go.RowKit Go.Shelf
set_option linter.unusedVariables false
set_option linter.unusedSimpArgs false

theorem idx_iter : ∀ (n : Nat), n ≤ 4 → ∀ (Bx b off cap : Nat) (zs : List Int), allR 1 1024 zs = true → zs.length = n → n ≤ cap → cap ≤ maxLen →
    IterOf Try.prog 41 #[.pointer (some ⟨Bx, 0, none⟩)] (BackR Bx (some ⟨b, off, none⟩)) (BackC Bx (some ⟨b, off, none⟩) n cap zs) (idxN zs n) idxV IdxE := by
  intro n
  induction n with
  | zero =>
    intro _ Bx b off cap zs _ hl _ _
    obtain rfl := List.length_eq_zero_iff.1 hl
    exact idx_base Bx _ cap []
  | succ n ih =>
    intro h4 Bx b off cap zs hr hl hc hm
    refine idx_step n h4 Bx b off cap zs hr hl hc hm (fun Bx' => ?_)
    have := ih (by omega) Bx' b off cap (zs.take n) (allR_take hr n) (by rw [List.length_take]; omega) (by omega) hm
    rwa [idxN_take zs n n (Nat.le_refl _)] at this

theorem all_iter (Bx : Nat) (a : Option Addr) (len cap : Nat) (zs : List Int) (hl : zs.length = len) :
    IterOf Try.prog 38 #[.pointer (some ⟨Bx, 0, none⟩)] (BackR Bx a) (BackC Bx a len cap zs) (allL zs) allV AllE := by
  cases hr : rightS zs
  · exact allS_wrong _ Bx a len cap zs hr
  · have h4 := (rightS_parts hr).2.1
    exact allS_right Bx a len cap zs hr (fun Bx' b off cap' h1 h2 => idx_iter len (by omega) Bx' b off cap' zs (rightS_parts hr).2.2.1 hl h1 h2)
end Go.Proofs.Ytieajkpjkhdjeaa
