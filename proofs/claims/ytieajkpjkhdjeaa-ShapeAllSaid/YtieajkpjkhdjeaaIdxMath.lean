/-
  Plain mathematics of the order of places: all index lists in row-major order.
-/
import Derived.Test.YtieajkpjkhdjeaaDigits
namespace Go.Proofs.Ytieajkpjkhdjeaa
set_option linter.unusedVariables false
set_option linter.unusedSimpArgs false

/-- One index list continued by each index of the last side below i. -/
def rowN (st : List Int) (i : Nat) : List (List Int) := (List.range i).map fun (j : Nat) => st ++ [(j : Int)]
theorem rowN_succ (st : List Int) (i : Nat) : rowN st (i + 1) = rowN st i ++ [st ++ [(i : Int)]] := by simp [rowN, List.range_succ]
theorem rowN_split (st : List Int) (i d : Nat) (h : i < d) : ∃ r, rowN st d = rowN st i ++ (st ++ [(i : Int)]) :: r := by
  induction d with
  | zero => omega
  | succ d ih =>
    by_cases e : i = d
    · subst e; exact ⟨[], rowN_succ st i⟩
    · obtain ⟨r, hr⟩ := ih (by omega)
      exact ⟨r ++ [st ++ [(d : Int)]], by rw [rowN_succ, hr]; simp⟩
def flatN (zs : List Int) (n : Nat) (l : List (List Int)) : List (List Int) := l.flatMap fun st => rowN st (zs.getD n 0).toNat
theorem flatN_append (zs : List Int) (n : Nat) (l m : List (List Int)) : flatN zs n (l ++ m) = flatN zs n l ++ flatN zs n m := by simp [flatN]
theorem flatN_one (zs : List Int) (n : Nat) (st : List Int) : flatN zs n [st] = rowN st (zs.getD n 0).toNat := by simp [flatN]
/-- All index lists of the first n sides. -/
def idxN (zs : List Int) : Nat → List (List Int)
  | 0 => [[]]
  | n + 1 => flatN zs n (idxN zs n)
theorem idxN_len (zs : List Int) : ∀ n, ∀ st ∈ idxN zs n, st.length = n := by
  intro n
  induction n with
  | zero => intro st h; simp [idxN] at h; simp [h]
  | succ n ih =>
    intro st h
    simp only [idxN, flatN, List.mem_flatMap, rowN, List.mem_map] at h
    obtain ⟨s, hs, j, _, rfl⟩ := h
    simp [ih s hs]
theorem idx_split {zs : List Int} {n : Nat} {pre rest : List (List Int)} {st : List Int} (h : idxN zs n = pre ++ st :: rest) (i : Nat) (hi : i < (zs.getD n 0).toNat) :
    ∃ r, idxN zs (n + 1) = (flatN zs n pre ++ rowN st i) ++ (st ++ [(i : Int)]) :: r := by
  obtain ⟨r, hr⟩ := rowN_split st i _ hi
  refine ⟨r ++ flatN zs n rest, ?_⟩
  show flatN zs n (idxN zs n) = _
  rw [h, flatN_append, show st :: rest = [st] ++ rest from rfl, flatN_append, flatN_one, hr]
  simp

theorem digs_snoc (s : List Int) (d : Int) (hs : allR 1 1024 s = true) (hd : 1 ≤ d) (p : Int) : digs (s ++ [d]) p = digs s (p / d) ++ [p % d] := by
  induction s with
  | nil => simp [digs, prodI]
  | cons x s ih =>
    obtain ⟨⟨x1, x2⟩, hs'⟩ := allR_cons hs
    have S1 := prodI_pos hs'
    simp only [List.cons_append, digs]
    rw [ih hs', prodI_append]
    congr 2
    rw [show prodI [d] = d by simp [prodI], Int.mul_comm, Int.ediv_ediv_of_nonneg (by omega)]
theorem range_mul (P d : Nat) {α : Type} (f : Nat → α) : (List.range (P * d)).map f = (List.range P).flatMap fun q => (List.range d).map fun i => f (q * d + i) := by
  induction P with
  | zero => simp
  | succ P ih =>
    rw [Nat.succ_mul, List.range_add, List.map_append, ih, List.range_succ, List.flatMap_append, List.map_map]
    simp [Function.comp_def]
theorem take_snoc (zs : List Int) (n : Nat) (h : n < zs.length) : zs.take (n + 1) = zs.take n ++ [zs.getD n 0] := by
  rw [List.take_add_one, List.getElem?_eq_getElem h]; simp [List.getD, List.getElem?_eq_getElem h]
theorem idxN_digs (zs : List Int) (hr : allR 1 1024 zs = true) : ∀ n, n ≤ zs.length → idxN zs n = (List.range (prodI (zs.take n)).toNat).map fun p : Nat => digs (zs.take n) (p : Int) := by
  intro n
  induction n with
  | zero => intro _; simp [idxN, prodI, digs]
  | succ n ih =>
    intro hn
    obtain ⟨x1, x2⟩ := allR_getD hr n (by omega)
    have S1 := prodI_pos (allR_take hr n)
    simp only [idxN, flatN]
    rw [ih (by omega), take_snoc zs n (by omega), prodI_append, show prodI [zs.getD n 0] = zs.getD n 0 by simp [prodI]]
    obtain ⟨P, hP⟩ : ∃ P : Nat, prodI (zs.take n) = P := ⟨(prodI (zs.take n)).toNat, by omega⟩
    obtain ⟨d, hd⟩ : ∃ d : Nat, zs.getD n 0 = d := ⟨(zs.getD n 0).toNat, by omega⟩
    rw [hP, hd, show ((P : Int) * (d : Int)).toNat = P * d by rw [← Int.natCast_mul, Int.toNat_natCast], range_mul]
    simp only [Int.toNat_natCast, List.flatMap_map, rowN]
    congr 1
    funext q
    apply List.map_congr_left
    intro i hi
    have hi' : i < d := List.mem_range.1 hi
    rw [digs_snoc _ _ (allR_take hr n) (by omega)]
    congr 1
    · congr 1
      rw [Int.natCast_add, Int.natCast_mul, Int.add_comm, Int.add_mul_ediv_right _ _ (by omega), Int.ediv_eq_zero_of_lt (by omega) (by omega)]
      omega
    · congr 1
      rw [Int.natCast_add, Int.natCast_mul, Int.add_comm, Int.add_mul_emod_self_right, Int.emod_eq_of_lt (by omega) (by omega)]
end Go.Proofs.Ytieajkpjkhdjeaa
