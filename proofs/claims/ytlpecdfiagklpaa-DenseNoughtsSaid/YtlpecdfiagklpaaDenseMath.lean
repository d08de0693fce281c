/-
  Layer 6 in mathematics: rows and columns of a weight, the output, what goes back.
-/
import Derived.Test.YtlpecdfiagklpaaFixLists
namespace Go.Proofs.Ytlpecdfiagklpaa
set_option linter.unusedVariables false
set_option linter.unusedSimpArgs false

/-- Row i of a weight with n columns. -/
def rowD (w : List Int) (n i : Nat) : List Int := (w.drop (i * n)).take n
/-- Column j of a weight with n columns and m rows. -/
def colD (w : List Int) (n m j : Nat) : List Int := (List.range m).map fun i => w.getD (i * n + j) 0
theorem rowD_length {w : List Int} {n m i : Nat} (h : w.length = m * n) (hi : i < m) : (rowD w n i).length = n := by
  have : (i + 1) * n ≤ m * n := Nat.mul_le_mul_right n hi
  rw [Nat.add_mul, Nat.one_mul] at this
  unfold rowD
  rw [List.length_take, List.length_drop]
  omega
theorem rowD_get {w : List Int} {n i j : Nat} (hj : j < n) : (rowD w n i).getD j 0 = w.getD (i * n + j) 0 := by
  unfold rowD
  simp [List.getD, List.getElem?_take, List.getElem?_drop, hj]
theorem colD_length (w : List Int) (n m j : Nat) : (colD w n m j).length = m := by simp [colD]
theorem colD_get {w : List Int} {n m j i : Nat} (hi : i < m) : (colD w n m j).getD i 0 = w.getD (i * n + j) 0 := by
  simp [colD, List.getD, hi]
theorem cell_in {m n i j : Nat} (hi : i < m) (hj : j < n) : i * n + j < m * n := by
  have : (i + 1) * n ≤ m * n := Nat.mul_le_mul_right n hi
  rw [Nat.add_mul, Nat.one_mul] at this
  omega

/-- The output's cells. -/
def goD (m n : Nat) (w b x : List Int) : List Int := (List.range m).map fun i => sat (dotF (rowD w n i) x + b.getD i 0)
theorem goD_length (m n : Nat) (w b x : List Int) : (goD m n w b x).length = m := by simp [goD]
theorem goD_get {m n : Nat} {w b x : List Int} {i : Nat} (hi : i < m) : (goD m n w b x).getD i 0 = sat (dotF (rowD w n i) x + b.getD i 0) := by
  simp [goD, List.getD, hi]
theorem goD_step {m n : Nat} {w b x : List Int} {i : Nat} (hi : i < m) : (goD m n w b x).take (i + 1) = (goD m n w b x).take i ++ [sat (dotF (rowD w n i) x + b.getD i 0)] := by
  rw [List.take_add_one, List.getElem?_eq_getElem (by rw [goD_length]; exact hi)]
  simp [goD]
/-- What goes back to x. -/
def backX (m n : Nat) (w g : List Int) : List Int := (List.range n).map fun j => dotF (colD w n m j) g
theorem backX_length (m n : Nat) (w g : List Int) : (backX m n w g).length = n := by simp [backX]
theorem backX_get {m n : Nat} {w g : List Int} {j : Nat} (hj : j < n) : (backX m n w g).getD j 0 = dotF (colD w n m j) g := by
  simp [backX, List.getD, hj]
theorem backX_step {m n : Nat} {w g : List Int} {j : Nat} (hj : j < n) : (backX m n w g).take (j + 1) = (backX m n w g).take j ++ [dotF (colD w n m j) g] := by
  rw [List.take_add_one, List.getElem?_eq_getElem (by rw [backX_length]; exact hj)]
  simp [backX]
/-- What goes back to the weight, row by row. -/
def backW : List Int → List Int → List Int
  | [], _ => []
  | g :: r, x => x.map (fun y => mulF g y) ++ backW r x
theorem backW_length (g x : List Int) : (backW g x).length = g.length * x.length := by
  induction g with
  | nil => simp [backW]
  | cons a r ih => rw [backW, List.length_append, ih, List.length_map, List.length_cons, Nat.add_mul, Nat.one_mul, Nat.add_comm]
theorem backW_get {g x : List Int} {i j : Nat} (hi : i < g.length) (hj : j < x.length) : (backW g x).getD (i * x.length + j) 0 = mulF (g.getD i 0) (x.getD j 0) := by
  induction g generalizing i with
  | nil => simp at hi
  | cons a r ih =>
    cases i with
    | zero =>
      rw [Nat.zero_mul, Nat.zero_add, backW]
      simp [List.getD, List.getElem?_append_left, hj]
    | succ i =>
      have h1 := ih (i := i) (by simpa using hi)
      have e : (i + 1) * x.length + j = x.length + (i * x.length + j) := by rw [Nat.add_mul, Nat.one_mul]; omega
      rw [e, backW]
      simp only [List.getD] at h1 ⊢
      rw [List.getElem?_append_right (by rw [List.length_map]; omega), List.length_map, show x.length + (i * x.length + j) - x.length = i * x.length + j by omega, h1]
      simp
theorem backW_step {g x : List Int} {i j : Nat} (hi : i < g.length) (hj : j < x.length) : (backW g x).take (i * x.length + j + 1) = (backW g x).take (i * x.length + j) ++ [mulF (g.getD i 0) (x.getD j 0)] := by
  have hl : i * x.length + j < (backW g x).length := by rw [backW_length]; exact cell_in hi hj
  have h := backW_get hi hj
  rw [List.take_add_one, List.getElem?_eq_getElem hl]
  simp only [List.getD, List.getElem?_eq_getElem hl, Option.getD_some] at h
  rw [h]
  simp
end Go.Proofs.Ytlpecdfiagklpaa
