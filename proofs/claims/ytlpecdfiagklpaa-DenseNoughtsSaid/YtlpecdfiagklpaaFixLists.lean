/-
  Plain mathematics of sums and dot products of lists of saturating numbers.
-/
import Derived.Test.YtlpecdfiagklpaaFixMath
import Derived.Test.YtlpecdfiagklpaaInts
namespace Go.Proofs.Ytlpecdfiagklpaa
set_option linter.unusedVariables false
set_option linter.unusedSimpArgs false

/-- The sum of the elements, saturated after each addition. -/
def sumF (l : List Int) : Int := l.foldl (fun s x => sat (s + x)) 0
theorem sumF_step (l : List Int) (k : Nat) (hk : k < l.length) : sumF (l.take (k + 1)) = sat (sumF (l.take k) + l.getD k 0) := by
  unfold sumF
  rw [List.take_add_one, List.foldl_append]
  simp [List.getD, List.getElem?_eq_getElem hk]
theorem sumF_bounds (l : List Int) : -9223372036854775808 ≤ sumF l ∧ sumF l ≤ 9223372036854775807 := by
  unfold sumF
  cases h : l.reverse with
  | nil =>
    have : l = [] := by simpa using h
    subst this; simp
  | cons a r =>
    have : l = r.reverse ++ [a] := by rw [← List.reverse_reverse l, h]; simp
    subst this
    rw [List.foldl_append]
    exact sat_bounds _

/-- The sum of the products of the elements at the same index. -/
def dotF (a b : List Int) : Int := (a.zip b).foldl (fun s x => sat (s + mulF x.1 x.2)) 0
theorem dotF_step (a b : List Int) (k : Nat) (ha : k < a.length) (hb : k < b.length) : dotF (a.take (k + 1)) (b.take (k + 1)) = sat (dotF (a.take k) (b.take k) + mulF (a.getD k 0) (b.getD k 0)) := by
  unfold dotF
  have e : (a.take (k + 1)).zip (b.take (k + 1)) = (a.take k).zip (b.take k) ++ [(a.getD k 0, b.getD k 0)] := by
    rw [List.take_add_one, List.take_add_one, List.getElem?_eq_getElem ha, List.getElem?_eq_getElem hb, List.zip_append (by simp; omega)]
    simp [List.getD, List.getElem?_eq_getElem ha, List.getElem?_eq_getElem hb]
  rw [e, List.foldl_append]
  rfl
theorem dotF_bounds (a b : List Int) : -9223372036854775808 ≤ dotF a b ∧ dotF a b ≤ 9223372036854775807 := by
  unfold dotF
  generalize a.zip b = l
  cases h : l.reverse with
  | nil =>
    have : l = [] := by simpa using h
    subst this; simp
  | cons a r =>
    have : l = r.reverse ++ [a] := by rw [← List.reverse_reverse l, h]; simp
    subst this
    rw [List.foldl_append]
    exact sat_bounds _
theorem dotF_full (a b : List Int) (k : Nat) (h : k = min a.length b.length) : dotF (a.take k) (b.take k) = dotF a b := by
  unfold dotF
  subst h
  congr 1
  induction a generalizing b with
  | nil => simp
  | cons x a ih => cases b with
    | nil => simp
    | cons y b => simp [Nat.succ_min_succ, ih b]

end Go.Proofs.Ytlpecdfiagklpaa
