/-
  Plain mathematics of package shape: valid shapes, their sizes, lists changed at one place.
-/
import Derived.Test.YtlpecdfiagklpaaSafeMath
namespace Go.Proofs.Ytlpecdfiagklpaa
set_option linter.unusedVariables false
set_option linter.unusedSimpArgs false

/-- A valid shape. -/
def rightS (l : List Int) : Bool := decide (1 ≤ l.length) && decide (l.length ≤ 4) && allR 1 1024 l && decide (prodI l ≤ 65536)
theorem rightS_short {l : List Int} (h : l.length < 1) : rightS l = false := by simp [rightS]; omega
theorem rightS_long {l : List Int} (h : 4 < l.length) : rightS l = false := by
  have : ¬ l.length ≤ 4 := by omega
  simp [rightS, this]
theorem rightS_side {l : List Int} (h : allR 1 1024 l = false) : rightS l = false := by simp [rightS, h]
theorem rightS_big {l : List Int} (h : 65536 < prodI l) : rightS l = false := by
  have : ¬ prodI l ≤ 65536 := by omega
  simp [rightS, this]
theorem rightS_yes {l : List Int} (h1 : 1 ≤ l.length) (h2 : l.length ≤ 4) (h3 : allR 1 1024 l = true) (h4 : prodI l ≤ 65536) : rightS l = true := by simp [rightS, h1, h2, h3, h4]
theorem rightS_parts {l : List Int} (h : rightS l = true) : 1 ≤ l.length ∧ l.length ≤ 4 ∧ allR 1 1024 l = true ∧ prodI l ≤ 65536 := by
  simp [rightS] at h; exact ⟨h.1.1.1, h.1.1.2, h.1.2, h.2⟩

def sizeN (l : List Int) : Int := if rightS l = true then prodI l else 0
def sizeE (l : List Int) : Int := if rightS l = true then 0 else 20
theorem size_no {l : List Int} (h : rightS l = false) : 0 = sizeN l ∧ 20 = sizeE l := by simp [sizeN, sizeE, h]
theorem size_yes {l : List Int} (h : rightS l = true) : prodI l = sizeN l ∧ 0 = sizeE l := by simp [sizeN, sizeE, h]

theorem prodI_pow {l : List Int} (h : allR 1 1024 l = true) : prodI l ≤ 1024 ^ l.length := by
  induction l with
  | nil => simp [prodI]
  | cons x l ih =>
    unfold allR at h; rw [List.all_cons, Bool.and_eq_true] at h
    have hx := inR_bounds h.1
    have hp := ih h.2
    have h1 := prodI_pos (l := l) (hi := 1024) h.2
    rw [prodI_cons, List.length_cons, Int.pow_succ, Int.mul_comm]
    exact Int.mul_le_mul hp hx.2 (by omega) (by omega)
theorem prodI_le {l : List Int} (h : allR 1 1024 l = true) (h4 : l.length ≤ 4) : prodI l ≤ 1099511627776 := by
  have h1 := prodI_pow h
  have : (1024 : Int) ^ l.length ≤ 1024 ^ 4 := by
    match l.length, h4 with
    | 0, _ => decide
    | 1, _ => decide
    | 2, _ => decide
    | 3, _ => decide
    | 4, _ => decide
  have e : (1024 : Int) ^ 4 = 1099511627776 := by decide
  omega
theorem allR_wide {lo hi hi' : Int} {l : List Int} (hh : hi ≤ hi') (h : allR lo hi l = true) : allR lo hi' l = true := by
  unfold allR at *
  rw [List.all_eq_true] at *
  intro x hx
  obtain ⟨a, b⟩ := inR_bounds (h x hx)
  exact inR_yes a (by omega)
theorem mul_shape {l : List Int} (h : allR 1 1024 l = true) (h4 : l.length ≤ 4) : mulN l = prodI l ∧ mulE l = 0 := by
  obtain ⟨a, b⟩ := mul_ok (allR_more (lo' := 0) (by omega) (allR_wide (hi' := 1099511627776) (by omega) h)) (prodI_le h h4)
  exact ⟨a.symm, b.symm⟩

/-- The same list. -/
def sameL (a b : List Int) : Bool := decide (a = b)
theorem sameL_len {a b : List Int} (h : a.length ≠ b.length) : false = sameL a b := by
  have : a ≠ b := fun e => h (by rw [e])
  simp [sameL, this]
theorem sameL_at {a b : List Int} (k : Nat) (h : a.getD k 0 ≠ b.getD k 0) : false = sameL a b := by
  have : a ≠ b := fun e => h (by rw [e])
  simp [sameL, this]
theorem sameL_full {a b : List Int} (k : Nat) (hl : a.length = b.length) (hk : a.length ≤ k) (h : a.take k = b.take k) : true = sameL a b := by
  rw [List.take_of_length_le hk, List.take_of_length_le (by omega)] at h
  simp [sameL, h]
theorem take_step {a b : List Int} (k : Nat) (hl : a.length = b.length) (hk : k < a.length) (h : a.take k = b.take k) (h' : a.getD k 0 = b.getD k 0) : a.take (k + 1) = b.take (k + 1) := by
  rw [List.take_add_one, List.take_add_one, h]
  have e1 : a[k]? = some (a.getD k 0) := by simp [List.getD, List.getElem?_eq_getElem hk]
  have e2 : b[k]? = some (b.getD k 0) := by simp [List.getD, List.getElem?_eq_getElem (show k < b.length by omega)]
  rw [e1, e2, h']
theorem sameL_self (a : List Int) : sameL a a = true := by simp [sameL]
theorem sameL_eq {a b : List Int} (h : sameL a b = true) : a = b := by simpa [sameL] using h


/-- Indices within their sides; the number of a place. -/
def inB (z : List (Int × Int)) : Bool := z.all fun q => decide (0 ≤ q.2) && decide (q.2 < q.1)
def numP (z : List (Int × Int)) : Int := z.foldl (fun p q => p * q.1 + q.2) 0
theorem zip_getElem? (s a : List Int) (k : Nat) (h1 : k < s.length) (h2 : k < a.length) : (s.zip a)[k]? = some (s.getD k 0, a.getD k 0) := by
  rw [List.getElem?_eq_getElem (by rw [List.length_zip]; omega), List.getElem_zip]
  simp [List.getD, List.getElem?_eq_getElem h1, List.getElem?_eq_getElem h2]
theorem inB_step (s a : List Int) (k : Nat) (h1 : k < s.length) (h2 : k < a.length) (h : inB ((s.zip a).take k) = true) (l : 0 ≤ a.getD k 0) (u : a.getD k 0 < s.getD k 0) : inB ((s.zip a).take (k + 1)) = true := by
  unfold inB at *
  rw [List.take_add_one, zip_getElem? s a k h1 h2, List.all_append, h]
  simp only [Option.toList_some, List.all_cons, List.all_nil, Bool.and_true, Bool.true_and, Bool.and_eq_true, decide_eq_true_eq]
  exact ⟨l, u⟩
theorem inB_stop (s a : List Int) (k : Nat) (h1 : k < s.length) (h2 : k < a.length) (l : ¬ (0 ≤ a.getD k 0 ∧ a.getD k 0 < s.getD k 0)) : inB (s.zip a) = false := by
  unfold inB
  rw [List.all_eq_false]
  refine ⟨(s.getD k 0, a.getD k 0), List.mem_of_getElem? (zip_getElem? s a k h1 h2), ?_⟩
  simp only [Bool.and_eq_true, decide_eq_true_eq]
  exact l
theorem numP_step (s a : List Int) (k : Nat) (h1 : k < s.length) (h2 : k < a.length) : numP ((s.zip a).take (k + 1)) = numP ((s.zip a).take k) * s.getD k 0 + a.getD k 0 := by
  unfold numP
  rw [List.take_add_one, zip_getElem? s a k h1 h2, List.foldl_append]
  rfl
theorem numP_append (z y : List (Int × Int)) : numP (z ++ y) = y.foldl (fun p q => p * q.1 + q.2) (numP z) := by unfold numP; rw [List.foldl_append]
theorem numP_take (s a : List Int) (hs : s.length = a.length) (hr : allR 1 1024 s = true) : ∀ k, k ≤ s.length → inB ((s.zip a).take k) = true → 0 ≤ numP ((s.zip a).take k) ∧ numP ((s.zip a).take k) < prodI (s.take k) := by
  intro k
  induction k with
  | zero => intro _ _; simp [numP, prodI]
  | succ k ih =>
    intro hk hb
    have hb' : inB ((s.zip a).take k) = true := by
      unfold inB at *
      rw [List.all_eq_true] at *
      intro x hx
      exact hb x (by rw [List.take_add_one]; exact List.mem_append_left _ hx)
    have hbk : 0 ≤ a.getD k 0 ∧ a.getD k 0 < s.getD k 0 := by
      unfold inB at hb
      rw [List.all_eq_true] at hb
      have := hb (s.getD k 0, a.getD k 0) (by rw [List.take_add_one, zip_getElem? s a k (by omega) (by omega)]; simp)
      simpa using this
    obtain ⟨i1, i2⟩ := ih (by omega) hb'
    obtain ⟨x1, x2⟩ := allR_getD hr k (by omega)
    rw [numP_step s a k (by omega) (by omega), prodI_step s k (by omega)]
    have m1 : numP ((s.zip a).take k) * s.getD k 0 ≤ (prodI (s.take k) - 1) * s.getD k 0 := Int.mul_le_mul (by omega) (Int.le_refl _) (by omega) (by omega)
    have m2 : 0 ≤ numP ((s.zip a).take k) * s.getD k 0 := Int.mul_nonneg i1 (by omega)
    rw [Int.sub_mul] at m1
    omega

/-- What Place tells: the number and the error. -/
def atOk (s a : List Int) : Bool := decide (s.length = a.length) && inB (s.zip a)
def placeN (s a : List Int) : Int := if rightS s = true ∧ atOk s a = true then numP (s.zip a) else 0
def placeE (s a : List Int) : Int := if rightS s = true then (if atOk s a = true then 0 else 11) else 20
theorem place_wrong {s a : List Int} (h : rightS s = false) : 0 = placeN s a ∧ 20 = placeE s a := by simp [placeN, placeE, h]
theorem place_none {s a : List Int} (h : rightS s = true) (h' : atOk s a = false) : 0 = placeN s a ∧ 11 = placeE s a := by simp [placeN, placeE, h, h']
theorem place_yes {s a : List Int} (h : rightS s = true) (h' : atOk s a = true) : numP (s.zip a) = placeN s a ∧ 0 = placeE s a := by simp [placeN, placeE, h, h']
theorem atOk_len {s a : List Int} (h : ¬ s.length = a.length) : atOk s a = false := by simp [atOk, h]
theorem atOk_bad {s a : List Int} (h : inB (s.zip a) = false) : atOk s a = false := by simp [atOk, h]
theorem atOk_yes {s a : List Int} (h : s.length = a.length) (h' : inB (s.zip a) = true) : atOk s a = true := by simp [atOk, h, h']
theorem take_zip_full {s a : List Int} (k : Nat) (hk : s.length ≤ k) : (s.zip a).take k = s.zip a := List.take_of_length_le (by rw [List.length_zip]; omega)
theorem numP_lt {s a : List Int} (h : rightS s = true) (h' : atOk s a = true) : 0 ≤ numP (s.zip a) ∧ numP (s.zip a) < prodI s := by
  have hl : s.length = a.length := by simp [atOk] at h'; exact h'.1
  have hb : inB (s.zip a) = true := by simp [atOk] at h'; exact h'.2
  have := numP_take s a hl (rightS_parts h).2.2.1 s.length (Nat.le_refl _) (by rw [take_zip_full _ (Nat.le_refl _)]; exact hb)
  rwa [take_zip_full _ (Nat.le_refl _), List.take_of_length_le (Nat.le_refl _)] at this
end Go.Proofs.Ytlpecdfiagklpaa
