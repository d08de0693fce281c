/-
  Plain mathematics of places: the indices of a place, and its number again.
-/
import Derived.Test.YtieajkpjkhdjeaaShapeMath
namespace Go.Proofs.Ytieajkpjkhdjeaa
set_option linter.unusedVariables false
set_option linter.unusedSimpArgs false

/-- The indices of the place with number p. -/
def digs : List Int → Int → List Int
  | [], _ => []
  | x :: s, p => (p / prodI s) % x :: digs s p
theorem digs_length (s : List Int) (p : Int) : (digs s p).length = s.length := by
  induction s with
  | nil => rfl
  | cons x s ih => simp [digs, ih]

theorem allR_cons {lo hi x : Int} {l : List Int} (h : allR lo hi (x :: l) = true) : (lo ≤ x ∧ x ≤ hi) ∧ allR lo hi l = true := by
  unfold allR at *
  rw [List.all_cons, Bool.and_eq_true] at h
  exact ⟨inR_bounds h.1, h.2⟩

theorem inB_cons {x a : Int} {z : List (Int × Int)} (h : inB ((x, a) :: z) = true) : (0 ≤ a ∧ a < x) ∧ inB z = true := by
  unfold inB at *
  rw [List.all_cons, Bool.and_eq_true] at h
  exact ⟨by simpa using h.1, h.2⟩

theorem rem_split (p x S : Int) (hS : 1 ≤ S) (hx : 1 ≤ x) : p % (x * S) = (p / S) % x * S + p % S := by
  have e1 : S * (p / S) + p % S = p := Int.mul_ediv_add_emod p S
  have e2 : x * (p / S / x) + p / S % x = p / S := Int.mul_ediv_add_emod (p / S) x
  have b1 := Int.emod_nonneg p (show S ≠ 0 by omega)
  have b2 := Int.emod_lt_of_pos p (show 0 < S by omega)
  have b3 := Int.emod_nonneg (p / S) (show x ≠ 0 by omega)
  have b4 := Int.emod_lt_of_pos (p / S) (show 0 < x by omega)
  generalize p % S = r at *
  generalize p / S % x = d at *
  generalize p / S / x = q at *
  have e3 : p = (d * S + r) + q * (x * S) := by
    rw [← e1, ← e2, Int.mul_add, Int.add_right_comm, Int.mul_comm S d, Int.add_comm (S * (x * q))]
    have : S * (x * q) = q * (x * S) := by rw [Int.mul_comm S, Int.mul_comm x q, Int.mul_assoc]
    omega
  have m1 : d * S ≤ (x - 1) * S := Int.mul_le_mul (by omega) (Int.le_refl _) (by omega) (by omega)
  have m2 : 0 ≤ d * S := Int.mul_nonneg b3 (by omega)
  rw [Int.sub_mul] at m1
  rw [e3, Int.add_mul_emod_self_right, Int.emod_eq_of_lt (by omega) (by omega)]

theorem digs_num_acc (s : List Int) (h : allR 1 1024 s = true) (p : Int) : ∀ acc, (s.zip (digs s p)).foldl (fun p q => p * q.1 + q.2) acc = acc * prodI s + p % prodI s := by
  induction s with
  | nil => intro acc; simp [prodI, Int.emod_one]
  | cons x s ih =>
    intro acc
    obtain ⟨⟨x1, x2⟩, hs⟩ := allR_cons h
    have S1 := prodI_pos hs
    simp only [digs, List.zip_cons_cons, List.foldl_cons]
    rw [ih hs, prodI_cons, rem_split p x _ S1 x1, Int.add_mul, Int.mul_assoc, Int.add_assoc]
theorem digs_num {s : List Int} (h : allR 1 1024 s = true) {p : Int} (h0 : 0 ≤ p) (h1 : p < prodI s) : numP (s.zip (digs s p)) = p := by
  unfold numP
  rw [digs_num_acc s h p 0, Int.zero_mul, Int.zero_add, Int.emod_eq_of_lt h0 h1]
theorem digs_in (s : List Int) (h : allR 1 1024 s = true) (p : Int) : inB (s.zip (digs s p)) = true := by
  induction s with
  | nil => rfl
  | cons x s ih =>
    obtain ⟨⟨x1, x2⟩, hs⟩ := allR_cons h
    have := ih hs
    unfold inB at *
    simp only [digs, List.zip_cons_cons, List.all_cons, this, Bool.and_true, Bool.and_eq_true, decide_eq_true_eq]
    exact ⟨Int.emod_nonneg _ (by omega), Int.emod_lt_of_pos _ (by omega)⟩
theorem digs_ok {s : List Int} (h : allR 1 1024 s = true) (p : Int) : atOk s (digs s p) = true := atOk_yes (digs_length s p).symm (digs_in s h p)

theorem fold_acc (z : List (Int × Int)) : ∀ acc, z.foldl (fun p q => p * q.1 + q.2) acc = acc * prodI (z.map (·.1)) + z.foldl (fun p q => p * q.1 + q.2) 0 := by
  induction z with
  | nil => intro acc; simp [prodI]
  | cons q z ih =>
    intro acc
    simp only [List.foldl_cons, List.map_cons]
    rw [ih, ih (0 * q.1 + q.2), prodI_cons, Int.zero_mul, Int.zero_add, Int.add_mul, Int.mul_assoc, Int.add_assoc]
theorem map_zip_fst (s a : List Int) (h : s.length = a.length) : (s.zip a).map (·.1) = s := by
  induction s generalizing a with
  | nil => rfl
  | cons x s ih =>
    cases a with
    | nil => simp at h
    | cons y a => simp only [List.zip_cons_cons, List.map_cons]; rw [ih a (by simpa using h)]
theorem num_digs_acc (s : List Int) (h : allR 1 1024 s = true) : ∀ (a : List Int) (acc : Int), 0 ≤ acc → s.length = a.length → inB (s.zip a) = true → digs s ((s.zip a).foldl (fun p q => p * q.1 + q.2) acc) = a := by
  induction s with
  | nil => intro a acc _ hl _; cases a with
    | nil => rfl
    | cons y a => simp at hl
  | cons x s ih =>
    intro a acc h0 hl hb
    cases a with
    | nil => simp at hl
    | cons y a =>
      obtain ⟨⟨x1, x2⟩, hs⟩ := allR_cons h
      simp only [List.zip_cons_cons] at hb ⊢
      obtain ⟨⟨y1, y2⟩, hb'⟩ := inB_cons hb
      have hl' : s.length = a.length := by simpa using hl
      have S1 := prodI_pos hs
      have m2 : 0 ≤ acc * x := Int.mul_nonneg h0 (by omega)
      simp only [List.foldl_cons, digs]
      rw [ih hs a _ (by omega) hl' hb']
      congr 1
      obtain ⟨t1, t2⟩ := numP_take s a hl' hs s.length (Nat.le_refl _) (by rw [take_zip_full _ (Nat.le_refl _)]; exact hb')
      rw [take_zip_full _ (Nat.le_refl _), List.take_of_length_le (Nat.le_refl _)] at t2
      rw [take_zip_full _ (Nat.le_refl _)] at t1
      rw [fold_acc, map_zip_fst s a hl']
      unfold numP at t1 t2
      generalize (s.zip a).foldl (fun p q => p * q.1 + q.2) 0 = t at *
      rw [Int.add_comm, Int.add_mul_ediv_right _ _ (show prodI s ≠ 0 by omega), Int.ediv_eq_zero_of_lt t1 t2, Int.zero_add, Int.add_comm, Int.mul_comm, Int.add_mul_emod_self_left, Int.emod_eq_of_lt y1 y2]
theorem num_digs {s a : List Int} (h : allR 1 1024 s = true) (ha : atOk s a = true) : digs s (numP (s.zip a)) = a := by
  simp [atOk] at ha
  exact num_digs_acc s h a 0 (Int.le_refl _) ha.1 ha.2

/-- What At does in a round: an index, and the number that is left. -/
def atStep (st : Int × List Int) (x : Nat × Int) : Int × List Int := (st.1 / x.2, st.2.set x.1 (st.1 % x.2))
theorem drop_cons (s : List Int) (k : Nat) (h : k < s.length) : s.drop k = s.getD k 0 :: s.drop (k + 1) := by
  rw [List.drop_eq_getElem_cons h]; simp [List.getD, List.getElem?_eq_getElem h]
theorem set_mid (k : Nat) (D : List Int) (y : Int) : (List.replicate (k + 1) (0 : Int) ++ D).set k y = List.replicate k 0 ++ y :: D := by
  induction k with
  | zero => rfl
  | succ k ih =>
    rw [show List.replicate (k + 1 + 1) (0 : Int) = 0 :: List.replicate (k + 1) 0 from rfl, List.cons_append, List.set_cons_succ, ih]
    rfl
end Go.Proofs.Ytieajkpjkhdjeaa
