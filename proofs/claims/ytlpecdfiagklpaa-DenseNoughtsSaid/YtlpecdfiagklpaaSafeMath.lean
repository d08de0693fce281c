/-
  Plain mathematics of package safe: bounds, sums and products of lists.
-/
namespace Go.Proofs.Ytlpecdfiagklpaa
set_option linter.unusedVariables false
set_option linter.unusedSimpArgs false

/-- From lo to hi. -/
def inR (lo hi n : Int) : Bool := decide (lo ≤ n) && decide (n ≤ hi)
theorem inR_yes {lo hi n : Int} (h1 : lo ≤ n) (h2 : n ≤ hi) : inR lo hi n = true := by simp [inR, h1, h2]
theorem inR_low {lo hi n : Int} (h1 : ¬ lo ≤ n) : inR lo hi n = false := by simp [inR]; omega
theorem inR_high {lo hi n : Int} (h1 : ¬ n ≤ hi) : inR lo hi n = false := by simp [inR]; omega
theorem inR_bounds {lo hi n : Int} (h : inR lo hi n = true) : lo ≤ n ∧ n ≤ hi := by simpa [inR] using h

/-- All elements are from lo to hi. -/
def allR (lo hi : Int) (l : List Int) : Bool := l.all (inR lo hi)
theorem allR_step (lo hi : Int) (l : List Int) (k : Nat) (hk : k < l.length) (h : allR lo hi (l.take k) = true) (h' : inR lo hi (l.getD k 0) = true) : allR lo hi (l.take (k + 1)) = true := by
  unfold allR at *
  rw [List.take_add_one, List.all_append, h]
  simpa [List.getElem?_eq_getElem hk, List.getD] using h'
theorem allR_stop (lo hi : Int) (l : List Int) (k : Nat) (hk : k < l.length) (h' : inR lo hi (l.getD k 0) = false) : false = allR lo hi l := by
  unfold allR
  symm
  rw [List.all_eq_false]
  refine ⟨l[k], List.getElem_mem hk, ?_⟩
  have : l.getD k 0 = l[k] := by simp [List.getD, List.getElem?_eq_getElem hk]
  rw [this] at h'
  simp [h']
theorem allR_full (lo hi : Int) (l : List Int) (k : Nat) (hk : l.length ≤ k) (h : allR lo hi (l.take k) = true) : true = allR lo hi l := by
  rw [List.take_of_length_le hk] at h; exact h.symm
theorem allR_getD {lo hi : Int} {l : List Int} (h : allR lo hi l = true) (k : Nat) (hk : k < l.length) : lo ≤ l.getD k 0 ∧ l.getD k 0 ≤ hi := by
  have : l.getD k 0 = l[k] := by simp [List.getD, List.getElem?_eq_getElem hk]
  rw [this]
  exact inR_bounds (List.all_eq_true.1 h _ (List.getElem_mem hk))
theorem allR_more {lo lo' hi : Int} {l : List Int} (hl : lo' ≤ lo) (h : allR lo hi l = true) : allR lo' hi l = true := by
  unfold allR at *
  rw [List.all_eq_true] at *
  intro x hx
  obtain ⟨a, b⟩ := inR_bounds (h x hx)
  exact inR_yes (by omega) b

/-- The sum and the product. -/
def sumI (l : List Int) : Int := l.foldl (· + ·) 0
def prodI (l : List Int) : Int := l.foldl (· * ·) 1
theorem foldl_add (l : List Int) (a : Int) : l.foldl (· + ·) a = a + sumI l := by
  unfold sumI
  induction l generalizing a with
  | nil => simp
  | cons x l ih => simp only [List.foldl_cons]; rw [ih, ih (0 + x)]; omega
theorem foldl_mul (l : List Int) (a : Int) : l.foldl (· * ·) a = a * prodI l := by
  unfold prodI
  induction l generalizing a with
  | nil => simp
  | cons x l ih => simp only [List.foldl_cons]; rw [ih, ih (1 * x), Int.one_mul, Int.mul_assoc]
theorem sumI_cons (x : Int) (l : List Int) : sumI (x :: l) = x + sumI l := by
  have := foldl_add l (0 + x); unfold sumI at *; simp only [List.foldl_cons]; omega
theorem prodI_cons (x : Int) (l : List Int) : prodI (x :: l) = x * prodI l := by
  have := foldl_mul l (1 * x); rw [Int.one_mul] at this; unfold prodI at *; simp only [List.foldl_cons, Int.one_mul]; exact this
theorem sumI_append (l m : List Int) : sumI (l ++ m) = sumI l + sumI m := by
  have := foldl_add m (sumI l); unfold sumI at *; rw [List.foldl_append]; exact this
theorem prodI_append (l m : List Int) : prodI (l ++ m) = prodI l * prodI m := by
  have := foldl_mul m (prodI l); unfold prodI at *; rw [List.foldl_append]; exact this
theorem sumI_step (l : List Int) (k : Nat) (hk : k < l.length) : sumI (l.take (k + 1)) = sumI (l.take k) + l.getD k 0 := by
  rw [List.take_add_one, sumI_append]; simp [List.getElem?_eq_getElem hk, List.getD, sumI]
theorem prodI_step (l : List Int) (k : Nat) (hk : k < l.length) : prodI (l.take (k + 1)) = prodI (l.take k) * l.getD k 0 := by
  rw [List.take_add_one, prodI_append]; simp [List.getElem?_eq_getElem hk, List.getD, prodI]
theorem sumI_nonneg {hi : Int} {l : List Int} (h : allR 0 hi l = true) : 0 ≤ sumI l := by
  induction l with
  | nil => simp [sumI]
  | cons x l ih =>
    unfold allR at h; rw [List.all_cons, Bool.and_eq_true] at h
    have := inR_bounds h.1; have := ih h.2; rw [sumI_cons]; omega
theorem prodI_pos {hi : Int} {l : List Int} (h : allR 1 hi l = true) : 1 ≤ prodI l := by
  induction l with
  | nil => simp [prodI]
  | cons x l ih =>
    unfold allR at h; rw [List.all_cons, Bool.and_eq_true] at h
    have := inR_bounds h.1; have := ih h.2; rw [prodI_cons]
    have := Int.mul_le_mul (show (1 : Int) ≤ x by omega) (show (1 : Int) ≤ prodI l by omega) (by omega) (by omega)
    omega
theorem allR_take {lo hi : Int} {l : List Int} (h : allR lo hi l = true) (k : Nat) : allR lo hi (l.take k) = true := by
  unfold allR at *; rw [List.all_eq_true] at *; intro x hx; exact h x (List.mem_of_mem_take hx)
theorem allR_drop {lo hi : Int} {l : List Int} (h : allR lo hi l = true) (k : Nat) : allR lo hi (l.drop k) = true := by
  unfold allR at *; rw [List.all_eq_true] at *; intro x hx; exact h x (List.mem_of_mem_drop hx)
theorem sumI_take_le {hi : Int} {l : List Int} (h : allR 0 hi l = true) (k : Nat) : sumI (l.take k) ≤ sumI l := by
  have e : sumI l = sumI (l.take k) + sumI (l.drop k) := by rw [← sumI_append, List.take_append_drop]
  have := sumI_nonneg (allR_drop h k); omega
theorem prodI_take_le {hi : Int} {l : List Int} (h : allR 1 hi l = true) (k : Nat) : prodI (l.take k) ≤ prodI l := by
  have e : prodI l = prodI (l.take k) * prodI (l.drop k) := by rw [← prodI_append, List.take_append_drop]
  have h1 := prodI_pos (allR_drop h k)
  have h2 := prodI_pos (allR_take h k)
  have := Int.mul_le_mul (show prodI (l.take k) ≤ prodI (l.take k) by omega) h1 (by omega) (by omega)
  omega
theorem prodI_zero {hi : Int} {l : List Int} (h : allR 0 hi l = true) (h' : allR 1 hi l = false) : prodI l = 0 := by
  unfold allR at h'
  rw [List.all_eq_false] at h'
  obtain ⟨x, hx, hn⟩ := h'
  obtain ⟨s, t, rfl⟩ := List.append_of_mem hx
  have hb := inR_bounds (List.all_eq_true.1 h x hx)
  have : x = 0 := by
    apply Decidable.byContradiction; intro hne
    exact hn (inR_yes (by omega) hb.2)
  subst this
  rw [prodI_append, prodI_cons]; simp

/-- What Add and Mul tell: the number and the error. -/
def addN (l : List Int) : Int := if allR 0 1099511627776 l = true ∧ sumI l ≤ 1099511627776 then sumI l else 0
def addE (l : List Int) : Int := if allR 0 1099511627776 l = true then (if sumI l ≤ 1099511627776 then 0 else 17) else 11
def mulN (l : List Int) : Int := if allR 0 1099511627776 l = true ∧ prodI l ≤ 1099511627776 then prodI l else 0
def mulE (l : List Int) : Int := if allR 0 1099511627776 l = true then (if prodI l ≤ 1099511627776 then 0 else 17) else 11
theorem add_bad {l : List Int} (h : allR 0 1099511627776 l = false) : 0 = addN l ∧ 11 = addE l := by simp [addN, addE, h]
theorem add_big {l : List Int} (h : allR 0 1099511627776 l = true) (h' : 1099511627776 < sumI l) : 0 = addN l ∧ 17 = addE l := by
  have : ¬ sumI l ≤ 1099511627776 := by omega
  simp [addN, addE, h, this]
theorem add_ok {l : List Int} (h : allR 0 1099511627776 l = true) (h' : sumI l ≤ 1099511627776) : sumI l = addN l ∧ 0 = addE l := by simp [addN, addE, h, h']
theorem mul_bad {l : List Int} (h : allR 0 1099511627776 l = false) : 0 = mulN l ∧ 11 = mulE l := by simp [mulN, mulE, h]
theorem mul_big {l : List Int} (h : allR 0 1099511627776 l = true) (h' : 1099511627776 < prodI l) : 0 = mulN l ∧ 17 = mulE l := by
  have : ¬ prodI l ≤ 1099511627776 := by omega
  simp [mulN, mulE, h, this]
theorem mul_ok {l : List Int} (h : allR 0 1099511627776 l = true) (h' : prodI l ≤ 1099511627776) : prodI l = mulN l ∧ 0 = mulE l := by simp [mulN, mulE, h, h']
theorem mul_nought {l : List Int} (h : allR 0 1099511627776 l = true) (h' : allR 1 1099511627776 l = false) : 0 = mulN l ∧ 0 = mulE l := by
  have e := prodI_zero h h'
  simp [mulN, mulE, h, e]
theorem addN_bounds (l : List Int) : 0 ≤ addN l ∧ addN l ≤ 1099511627776 := by
  unfold addN; split
  · rename_i h; exact ⟨sumI_nonneg h.1, h.2⟩
  · omega
theorem prodI_nonneg {hi : Int} {l : List Int} (h : allR 0 hi l = true) : 0 ≤ prodI l := by
  cases c : allR 1 hi l
  · rw [prodI_zero h c]; omega
  · have := prodI_pos c; omega
theorem mulN_bounds (l : List Int) : 0 ≤ mulN l ∧ mulN l ≤ 1099511627776 := by
  unfold mulN; split
  · rename_i h; exact ⟨prodI_nonneg h.1, h.2⟩
  · omega

/-- The greatest element, at least 0. -/
def maxI (l : List Int) : Int := l.foldl max 0
theorem maxI_step (l : List Int) (k : Nat) (hk : k < l.length) : maxI (l.take (k + 1)) = max (maxI (l.take k)) (l.getD k 0) := by
  unfold maxI; rw [List.take_add_one, List.foldl_append]; simp [List.getElem?_eq_getElem hk, List.getD]

/-- Turned round: the same. -/
theorem allR_reverse (lo hi : Int) (l : List Int) : allR lo hi l.reverse = allR lo hi l := by unfold allR; rw [List.all_reverse]
theorem sumI_reverse (l : List Int) : sumI l.reverse = sumI l := by
  induction l with
  | nil => rfl
  | cons x l ih =>
    have e : sumI [x] = x := by simp [sumI]
    rw [List.reverse_cons, sumI_append, e, sumI_cons, ih, Int.add_comm]
theorem prodI_reverse (l : List Int) : prodI l.reverse = prodI l := by
  induction l with
  | nil => rfl
  | cons x l ih =>
    have e : prodI [x] = x := by simp [prodI]
    rw [List.reverse_cons, prodI_append, e, prodI_cons, ih, Int.mul_comm]
theorem addN_reverse (l : List Int) : addN l.reverse = addN l := by unfold addN; rw [allR_reverse, sumI_reverse]
theorem addE_reverse (l : List Int) : addE l.reverse = addE l := by unfold addE; rw [allR_reverse, sumI_reverse]
theorem mulN_reverse (l : List Int) : mulN l.reverse = mulN l := by unfold mulN; rw [allR_reverse, prodI_reverse]
theorem mulE_reverse (l : List Int) : mulE l.reverse = mulE l := by unfold mulE; rw [allR_reverse, prodI_reverse]
end Go.Proofs.Ytlpecdfiagklpaa
