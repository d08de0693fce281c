/-
  Plain mathematics of the place behind one.
-/
import Derived.Test.YtieajkpjkhdjeaaIdxMath
namespace Go.Proofs.Ytieajkpjkhdjeaa
set_option linter.unusedVariables false
set_option linter.unusedSimpArgs false

/-- All indices of the sides stand at their ends. -/
def fullD (s : List Int) (p : Int) : Prop := p % prodI s = prodI s - 1
theorem fullD_nil (p : Int) : fullD [] p := by unfold fullD; simp [prodI, Int.emod_one]
theorem fullD_cons {x : Int} {s : List Int} (hx : 1 ≤ x) (hs : allR 1 1024 s = true) (p : Int) : fullD (x :: s) p ↔ ((p / prodI s) % x = x - 1 ∧ fullD s p) := by
  have S1 := prodI_pos hs
  unfold fullD
  rw [prodI_cons, rem_split p x _ S1 hx]
  have d0 := Int.emod_nonneg (p / prodI s) (show x ≠ 0 by omega)
  have d1 := Int.emod_lt_of_pos (p / prodI s) (show 0 < x by omega)
  have r0 := Int.emod_nonneg p (show prodI s ≠ 0 by omega)
  have r1 := Int.emod_lt_of_pos p (show 0 < prodI s by omega)
  generalize p / prodI s % x = d at *
  generalize p % prodI s = r at *
  generalize prodI s = S at *
  constructor
  · intro h
    have m : d * S ≤ (x - 1) * S := Int.mul_le_mul (by omega) (Int.le_refl _) (by omega) (by omega)
    rw [Int.sub_mul] at m
    have hr : r = S - 1 := by omega
    have hd : d = x - 1 := by
      apply Decidable.byContradiction
      intro hne
      have m2 : d * S ≤ (x - 2) * S := Int.mul_le_mul (by omega) (Int.le_refl _) (by omega) (by omega)
      rw [Int.sub_mul] at m2
      omega
    exact ⟨hd, hr⟩
  · rintro ⟨rfl, rfl⟩
    rw [Int.sub_mul]
    omega

theorem zeros_of (s : List Int) (hs : allR 1 1024 s = true) : ∀ p : Int, p % prodI s = 0 → digs s p = List.replicate s.length 0 := by
  induction s with
  | nil => intro p _; rfl
  | cons x s ih =>
    intro p h
    obtain ⟨⟨x1, x2⟩, hs'⟩ := allR_cons hs
    have S1 := prodI_pos hs'
    rw [prodI_cons, rem_split p x _ S1 x1] at h
    have d0 := Int.emod_nonneg (p / prodI s) (show x ≠ 0 by omega)
    have r0 := Int.emod_nonneg p (show prodI s ≠ 0 by omega)
    have m0 : 0 ≤ (p / prodI s) % x * prodI s := Int.mul_nonneg d0 (by omega)
    have hr : p % prodI s = 0 := by omega
    have hd : (p / prodI s) % x = 0 := by
      apply Decidable.byContradiction
      intro hne
      have := Int.mul_le_mul (show (1 : Int) ≤ (p / prodI s) % x by omega) (show 1 ≤ prodI s from S1) (by omega) (by omega)
      omega
    simp only [digs, List.length_cons, List.replicate_succ]
    rw [hd, ih hs' p hr]
theorem full_next {s : List Int} (hs : allR 1 1024 s = true) {p : Int} (h : fullD s p) : digs s (p + 1) = List.replicate s.length 0 ∧ (p + 1) / prodI s = p / prodI s + 1 := by
  have S1 := prodI_pos hs
  unfold fullD at h
  have e := Int.mul_ediv_add_emod p (prodI s)
  rw [h] at e
  have e2 : p + 1 = prodI s * (p / prodI s + 1) := by rw [Int.mul_add, Int.mul_one]; omega
  exact ⟨zeros_of s hs _ (by rw [e2, Int.mul_emod_right]), by rw [e2, Int.mul_ediv_cancel_left _ (by omega)]⟩
theorem not_full_next {s : List Int} (hs : allR 1 1024 s = true) {p : Int} (h : ¬ fullD s p) : (p + 1) / prodI s = p / prodI s := by
  have S1 := prodI_pos hs
  unfold fullD at h
  have e := Int.mul_ediv_add_emod p (prodI s)
  have r0 := Int.emod_nonneg p (show prodI s ≠ 0 by omega)
  have r1 := Int.emod_lt_of_pos p (show 0 < prodI s by omega)
  have e2 : p + 1 = (p % prodI s + 1) + prodI s * (p / prodI s) := by omega
  generalize p / prodI s = q at *
  generalize p % prodI s = r at *
  rw [e2, Int.add_mul_ediv_left _ _ (show prodI s ≠ 0 by omega), Int.ediv_eq_zero_of_lt (by omega) (by omega)]
  omega

/-- From the last side on: the indices behind i have come to their ends, that at i has not. -/
theorem next_at : ∀ (i : Nat) (zs : List Int), allR 1 1024 zs = true → i < zs.length → ∀ p : Int, fullD (zs.drop (i + 1)) p → (digs zs p).getD i 0 + 1 < zs.getD i 0 →
    ¬ fullD zs p ∧ digs zs (p + 1) = (digs zs p).take i ++ ((digs zs p).getD i 0 + 1) :: List.replicate (zs.length - i - 1) 0 := by
  intro i
  induction i with
  | zero =>
    intro zs hr hl p hf hd
    cases zs with
    | nil => simp at hl
    | cons x s =>
      obtain ⟨⟨x1, x2⟩, hs⟩ := allR_cons hr
      simp only [List.drop_succ_cons, List.drop_zero] at hf
      simp only [digs, List.getD_cons_zero] at hd ⊢
      obtain ⟨n1, n2⟩ := full_next hs hf
      have d0 := Int.emod_nonneg (p / prodI s) (show x ≠ 0 by omega)
      refine ⟨fun h => ?_, ?_⟩
      · have := ((fullD_cons x1 hs p).1 h).1; omega
      · rw [n1, n2]
        simp only [List.take_zero, List.nil_append, List.length_cons, Nat.sub_zero, Nat.add_sub_cancel]
        congr 1
        rw [Int.add_emod, show (1 : Int) % x = 1 from Int.emod_eq_of_lt (by omega) (by omega), Int.emod_eq_of_lt (by omega) (by omega)]
  | succ i ih =>
    intro zs hr hl p hf hd
    cases zs with
    | nil => simp at hl
    | cons x s =>
      obtain ⟨⟨x1, x2⟩, hs⟩ := allR_cons hr
      simp only [List.drop_succ_cons] at hf
      simp only [digs, List.getD_cons_succ] at hd ⊢
      obtain ⟨h1, h2⟩ := ih s hs (by simpa using hl) p hf hd
      refine ⟨fun h => h1 ((fullD_cons x1 hs p).1 h).2, ?_⟩
      rw [not_full_next hs h1, h2]
      simp
theorem full_step (zs : List Int) (hr : allR 1 1024 zs = true) (i : Nat) (hi : i < zs.length) (p : Int) (hf : fullD (zs.drop (i + 1)) p) (hd : ¬ (digs zs p).getD i 0 + 1 < zs.getD i 0) : fullD (zs.drop i) p := by
  obtain ⟨x1, x2⟩ := allR_getD hr i hi
  rw [drop_cons zs i hi, fullD_cons x1 (allR_drop hr (i + 1))]
  refine ⟨?_, hf⟩
  have e : (digs zs p).getD i 0 = (p / prodI (zs.drop (i + 1))) % zs.getD i 0 := by
    clear hf hd x1 x2 hr
    induction i generalizing zs with
    | zero => cases zs with
      | nil => simp at hi
      | cons x s => simp [digs]
    | succ i ih => cases zs with
      | nil => simp at hi
      | cons x s =>
        simp only [digs, List.getD_cons_succ, List.drop_succ_cons]
        exact ih s (by simpa using hi)
  rw [e] at hd
  have := Int.emod_lt_of_pos (p / prodI (zs.drop (i + 1))) (show 0 < zs.getD i 0 by omega)
  omega
theorem digs_at_lt (zs : List Int) (hr : allR 1 1024 zs = true) (p : Int) (i : Nat) (hi : i < zs.length) : 0 ≤ (digs zs p).getD i 0 ∧ (digs zs p).getD i 0 < zs.getD i 0 := by
  induction zs generalizing i with
  | nil => simp at hi
  | cons x s ih =>
    obtain ⟨⟨x1, x2⟩, hs⟩ := allR_cons hr
    cases i with
    | zero => simp only [digs, List.getD_cons_zero]; exact ⟨Int.emod_nonneg _ (by omega), Int.emod_lt_of_pos _ (by omega)⟩
    | succ i => simp only [digs, List.getD_cons_succ]; exact ih hs i (by simpa using hi)

/-- While going down: what stands behind i is 0. -/
def outN (l : List Int) (i : Nat) : List Int := l.take i ++ List.replicate (l.length - i) 0
theorem outN_full (l : List Int) : outN l l.length = l := by simp [outN]
theorem outN_length (l : List Int) (i : Nat) (h : i ≤ l.length) : (outN l i).length = l.length := by simp [outN]; omega
theorem outN_at (l : List Int) (i : Nat) (h : i < l.length) : (outN l (i + 1)).getD i 0 = l.getD i 0 := by
  unfold outN
  simp only [List.getD]
  rw [List.getElem?_append_left (by rw [List.length_take]; omega), List.getElem?_take, if_pos (by omega)]
theorem outN_set (l : List Int) (i : Nat) (h : i < l.length) (v : Int) : (outN l (i + 1)).set i v = l.take i ++ v :: List.replicate (l.length - i - 1) 0 := by
  unfold outN
  rw [List.take_add_one, List.getElem?_eq_getElem h, List.append_assoc]
  simp only [Option.toList_some, List.cons_append, List.nil_append]
  rw [List.set_append_right _ _ (by rw [List.length_take]; omega), List.length_take, show i - min i l.length = 0 by omega]
  simp only [List.set_cons_zero]
  congr 3
theorem outN_zero (l : List Int) (i : Nat) (h : i < l.length) : l.take i ++ (0 : Int) :: List.replicate (l.length - i - 1) 0 = outN l i := by
  unfold outN
  rw [show l.length - i = (l.length - i - 1) + 1 by omega, List.replicate_succ]
  simp
theorem next_list (zs : List Int) (hr : allR 1 1024 zs = true) (i : Nat) (hi : i < zs.length) (p : Int) (hf : fullD (zs.drop (i + 1)) p) (hd : (digs zs p).getD i 0 + 1 < zs.getD i 0) :
    (outN (digs zs p) (i + 1)).set i ((digs zs p).getD i 0 + 1) = digs zs (p + 1) := by
  rw [outN_set _ _ (by rw [digs_length]; exact hi), (next_at i zs hr hi p hf hd).2, digs_length]
theorem next_end (zs : List Int) (hr : allR 1 1024 zs = true) (p : Int) (hf : fullD zs p) : outN (digs zs p) 0 = digs zs (p + 1) := by
  rw [(full_next hr hf).1]; simp [outN, digs_length]
end Go.Proofs.Ytieajkpjkhdjeaa
