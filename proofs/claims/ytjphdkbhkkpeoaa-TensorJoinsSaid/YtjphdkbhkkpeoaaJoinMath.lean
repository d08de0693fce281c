/-
  What was joined is cut apart again: the lists.
-/
import Derived.Test.YtjphdkbhkkpeoaaRefJoinW
namespace Go.Proofs.Ytjphdkbhkkpeoaa
open Go.RowKit
set_option linter.unusedVariables false
set_option linter.unusedSimpArgs false

theorem joinP_at {cs ds : List Int} {n m : Nat} : ∀ M j, j < M → M * n ≤ cs.length → M * m ≤ ds.length → ((joinP cs ds n m M).drop (j * (n + m))).take (n + m) = (cs.drop (j * n)).take n ++ (ds.drop (j * m)).take m := by
  intro M
  induction M with
  | zero => intro j h; omega
  | succ M ih =>
    intro j h h1 h2
    rw [Nat.succ_mul] at h1 h2
    have hl := joinP_length (cs := cs) (ds := ds) (n := n) (m := m) M (by omega) (by omega)
    simp only [joinP]
    by_cases hj : j = M
    · subst hj
      rw [List.drop_append_of_le_length (by omega), List.drop_of_length_le (by omega), List.nil_append]
      refine List.take_of_length_le ?_
      simp only [List.length_append, List.length_take]
      omega
    · have h3 := mul_room (n := n + m) (show j < M by omega)
      rw [List.drop_append_of_le_length (by omega), List.take_append_of_le_length (by rw [List.length_drop]; omega)]
      exact ih j (by omega) (by omega) (by omega)
theorem join_first {cs ds : List Int} {n m M j : Nat} (h : j < M) (h1 : M * n ≤ cs.length) (h2 : M * m ≤ ds.length) : ((joinP cs ds n m M).drop (j * (n + m) + 0)).take n = (cs.drop (j * n)).take n := by
  have e := congrArg (List.take n) (joinP_at (cs := cs) (ds := ds) (n := n) (m := m) M j h h1 h2)
  have h3 := mul_room (n := n) h
  rw [List.take_take, Nat.min_eq_left (by omega), List.take_append_of_le_length (by rw [List.length_take, List.length_drop]; omega), List.take_take, Nat.min_self] at e
  rw [Nat.add_zero]
  exact e
theorem join_second {cs ds : List Int} {n m M j : Nat} (h : j < M) (h1 : M * n ≤ cs.length) (h2 : M * m ≤ ds.length) : ((joinP cs ds n m M).drop (j * (n + m) + n)).take m = (ds.drop (j * m)).take m := by
  have e := congrArg (List.drop n) (joinP_at (cs := cs) (ds := ds) (n := n) (m := m) M j h h1 h2)
  have h3 := mul_room (n := n) h
  have hn : ((cs.drop (j * n)).take n).length = n := by rw [List.length_take, List.length_drop]; omega
  have eL : ((joinP cs ds n m M).drop (j * (n + m)) |>.take (n + m)).drop n = ((joinP cs ds n m M).drop (j * (n + m) + n)).take m := by
    rw [List.drop_take, List.drop_drop, show n + m - n = m by omega]
  have eR : (((cs.drop (j * n)).take n) ++ ((ds.drop (j * m)).take m)).drop n = (ds.drop (j * m)).take m := by
    rw [List.drop_append_of_le_length (by omega), List.drop_of_length_le (by omega), List.nil_append]
  rw [eL, eR] at e
  exact e
theorem cut_first {cs ds : List Int} {n m M : Nat} (h1 : cs.length = M * n) (h2 : ds.length = M * m) : cutP (joinP cs ds n m M) (n + m) 0 n M = cs := by
  have : ∀ j, j ≤ M → cutP (joinP cs ds n m M) (n + m) 0 n j = cs.take (j * n) := by
    intro j
    induction j with
    | zero => intro _; simp [cutP]
    | succ j ih =>
      intro hj
      simp only [cutP]
      rw [ih (by omega), join_first (by omega) (by omega) (by omega), Nat.succ_mul, List.take_add]
  rw [this M (Nat.le_refl _), List.take_of_length_le (by omega)]
theorem cut_second {cs ds : List Int} {n m M : Nat} (h1 : cs.length = M * n) (h2 : ds.length = M * m) : cutP (joinP cs ds n m M) (n + m) n m M = ds := by
  have : ∀ j, j ≤ M → cutP (joinP cs ds n m M) (n + m) n m j = ds.take (j * m) := by
    intro j
    induction j with
    | zero => intro _; simp [cutP]
    | succ j ih =>
      intro hj
      simp only [cutP]
      rw [ih (by omega), join_second (by omega) (by omega) (by omega), Nat.succ_mul, List.take_add]
  rw [this M (Nat.le_refl _), List.take_of_length_le (by omega)]
theorem set_drop (ss : List Int) (k : Nat) (v : Int) : (ss.set k v).drop (k + 1) = ss.drop (k + 1) := by rw [List.drop_set_of_lt (by omega)]
theorem set_take (ss : List Int) (k : Nat) (v : Int) : (ss.set k v).take k = ss.take k := by rw [List.take_set_of_le (by omega)]
theorem set_get (ss : List Int) (k : Nat) (v : Int) (h : k < ss.length) : (ss.set k v).getD k 0 = v := by simp [List.getD, List.getElem?_set_self h]
theorem set_own (ss : List Int) (k : Nat) (h : k < ss.length) : ss.set k (ss.getD k 0) = ss := by
  apply List.ext_getElem?
  intro j
  by_cases hj : k = j
  · subst hj; rw [List.getElem?_set_self h]; simp [List.getD, List.getElem?_eq_getElem h]
  · rw [List.getElem?_set_ne hj]
theorem own_capped {w : World} {B : Nat} {e : TypeId} {A : Option Addr} {n cap : Nat} {xs : List Value} (h : w.ownsRow B e 1 (.slice A n cap) n xs) (hn : n ≤ 9223372036854775807) : Capped n cap := by
  rcases h.2 with ⟨hv, h0⟩ | ⟨g, c, cur, hv, hbg, hg, hnc, hcm, rest⟩
  · simp only [Value.slice.injEq] at hv
    obtain ⟨-, rfl, rfl⟩ := hv
    exact ⟨Nat.le_refl _, by omega⟩
  · simp only [Value.slice.injEq] at hv
    obtain ⟨-, -, rfl⟩ := hv
    exact ⟨hnc, by unfold maxLen at hcm; omega⟩
end Go.Proofs.Ytjphdkbhkkpeoaa
