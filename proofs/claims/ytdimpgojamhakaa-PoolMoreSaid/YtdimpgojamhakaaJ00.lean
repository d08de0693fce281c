import Derived.WalkKit
import Derived.WalkSpells
import Derived.Lib.Hide
import Derived.LoopTactic
import Derived.OpenShut
import Derived.Below
import Derived.Deep.QuietTactic
import Derived.BigQuiet
import Derived.Deep.Draws
import Derived.Test.YtdimpgojamhakaaRows
import Derived.Laws.OwnMore
import Derived.Deep.AppendLies
import Derived.Lib.SliceRun
import Derived.Lib.SmallJoins
import Derived.Deep.RegionWith
import Derived.IntWalk
/-
  Plain mathematics of saturating fixed-point numbers: rounding to the nearest, ties to even; saturation. No program is named here.
-/
namespace Go.Proofs.Ytdimpgojamhakaa
set_option linter.unusedVariables false
set_option linter.unusedSimpArgs false

/-- The magnitude. -/
def mag (x : Int) : Int := if x < 0 then -x else x
theorem mag_bounds (x : Int) (h1 : -9223372036854775808 ≤ x) (h2 : x ≤ 9223372036854775807) : 0 ≤ mag x ∧ mag x ≤ 9223372036854775808 := by
  unfold mag; split <;> omega
theorem mag_neg (x : Int) (h : x < 0) : mag x = -x := by unfold mag; rw [if_pos h]
theorem mag_pos (x : Int) (h : 0 ≤ x) : mag x = x := by unfold mag; rw [if_neg (by omega)]

/-- The number with a sign and a magnitude, saturated. -/
def sgn (neg : Bool) (m : Int) : Int :=
  if m < 9223372036854775808 then (if neg then -m else m) else if neg then -9223372036854775808 else 9223372036854775807

/-- Rounding up is due: the rest is more than half of the unit, or just half and the whole is odd. -/
def up (whole rest unit : Int) : Bool := decide (unit < 2 * rest) || (decide (unit = 2 * rest) && decide (whole % 2 = 1))

/-- Rounded to the nearest, ties to even; what is at least 2^63 stays as it is. -/
def rnd (whole rest unit : Int) : Int := if up whole rest unit = true ∧ whole < 9223372036854775808 then whole + 1 else whole

/-- Rounded without the cap. -/
def rndFull (whole rest unit : Int) : Int := if up whole rest unit = true then whole + 1 else whole

theorem sgn_rnd (neg : Bool) (whole rest unit : Int) : sgn neg (rnd whole rest unit) = sgn neg (rndFull whole rest unit) := by
  unfold rnd rndFull
  by_cases hu : up whole rest unit = true
  · by_cases hw : whole < 9223372036854775808
    · simp [hu, hw]
    · have h2 : ¬ whole + 1 < 9223372036854775808 := by omega
      simp [hu, hw, sgn, h2]
  · simp [hu]

theorem sgn_bounds (neg : Bool) (m : Int) (h : 0 ≤ m) : -9223372036854775808 ≤ sgn neg m ∧ sgn neg m ≤ 9223372036854775807 := by
  unfold sgn
  split <;> split <;> omega
theorem sgn_big (neg : Bool) (m : Int) (h : 9223372036854775808 ≤ m) : sgn neg m = if neg then -9223372036854775808 else 9223372036854775807 := by
  unfold sgn; rw [if_neg (by omega)]

/-- Saturation. -/
def sat (z : Int) : Int := if z < -9223372036854775808 then -9223372036854775808 else if 9223372036854775807 < z then 9223372036854775807 else z

theorem sat_bounds (z : Int) : -9223372036854775808 ≤ sat z ∧ sat z ≤ 9223372036854775807 := by
  unfold sat
  split
  · omega
  · split <;> omega
theorem sat_in (z : Int) (h1 : -9223372036854775808 ≤ z) (h2 : z ≤ 9223372036854775807) : sat z = z := by
  unfold sat; rw [if_neg (by omega), if_neg (by omega)]
theorem sat_hi (z : Int) (h2 : 9223372036854775807 ≤ z) : sat z = 9223372036854775807 := by
  unfold sat; rw [if_neg (by omega)]; split <;> omega
theorem sat_lo (z : Int) (h2 : z ≤ -9223372036854775808) : sat z = -9223372036854775808 := by
  unfold sat; split
  · rfl
  · rw [if_neg (by omega)]; omega

/-- The product of two numbers. -/
def mulF (x y : Int) : Int := sgn (decide (x < 0) != decide (y < 0)) (rndFull (mag x * mag y / 4294967296) (mag x * mag y % 4294967296) 4294967296)

/-- The quotient of two numbers. -/
def divF (x y : Int) : Int :=
  if x = 0 then 0
  else if y = 0 then (if x < 0 then -9223372036854775808 else 9223372036854775807)
  else sgn (decide (x < 0) != decide (y < 0)) (rndFull (mag x * 4294967296 / mag y) (mag x * 4294967296 % mag y) (mag y))

theorem mulF_bounds (x y : Int) : -9223372036854775808 ≤ mulF x y ∧ mulF x y ≤ 9223372036854775807 := by
  apply sgn_bounds
  have hx : 0 ≤ mag x := by unfold mag; split <;> omega
  have hy : 0 ≤ mag y := by unfold mag; split <;> omega
  have h : 0 ≤ mag x * mag y := Int.mul_nonneg hx hy
  unfold rndFull
  split <;> omega
theorem divF_bounds (x y : Int) : -9223372036854775808 ≤ divF x y ∧ divF x y ≤ 9223372036854775807 := by
  unfold divF
  split
  · omega
  · split
    · split <;> omega
    · apply sgn_bounds
      have hx : 0 ≤ mag x * 4294967296 := by unfold mag; split <;> omega
      have hy : 0 ≤ mag y := by unfold mag; split <;> omega
      have h : 0 ≤ mag x * 4294967296 / mag y := Int.ediv_nonneg hx hy
      unfold rndFull
      split <;> omega

/-- The magnitude of a product, rounded; 2^63 if it is far too great. -/
def prodF (a b : Int) : Int := if a * b < 79228162514264337593543950336 then rnd (a * b / 4294967296) (a * b % 4294967296) 4294967296 else 9223372036854775808

theorem sgn_prodF (neg : Bool) (a b : Int) : sgn neg (prodF a b) = sgn neg (rndFull (a * b / 4294967296) (a * b % 4294967296) 4294967296) := by
  unfold prodF
  by_cases h : a * b < 79228162514264337593543950336
  · rw [if_pos h, sgn_rnd]
  · rw [if_neg h, sgn_big _ _ (by omega), sgn_big _ _ (by unfold rndFull; split <;> omega)]
theorem prodF_bounds (a b : Int) (h : 0 ≤ a * b) : 0 ≤ prodF a b ∧ prodF a b < 18446744073709551616 := by
  unfold prodF rnd
  split
  · split <;> omega
  · omega

/-- Within bounds; the upper one is compared first. -/
def clampF (x lo hi : Int) : Int := if hi < x then hi else if x < lo then lo else x

/-- A magnitude with a sign; beyond all bounds if over is true. -/
def heldF (n : Int) (over neg : Bool) : Int := sgn neg (if over = true then 9223372036854775808 else n)
theorem heldF_false (n : Int) (neg : Bool) : heldF n false neg = sgn neg n := rfl
theorem heldF_true (n : Int) (neg : Bool) : heldF n true neg = sgn neg 9223372036854775808 := rfl

/-- The magnitude of a quotient, rounded; 2^63 if it is far too great. -/
def quoF (a b : Int) : Int := if a / 4294967296 < b then rnd (a * 4294967296 / b) (a * 4294967296 % b) b else 9223372036854775808

theorem quoF_bounds (a b : Int) (ha : 0 ≤ a) : 0 ≤ quoF a b ∧ (0 ≤ b → quoF a b < 18446744073709551616) := by
  unfold quoF
  by_cases h : a / 4294967296 < b
  · rw [if_pos h]
    have h1 : 0 ≤ a * 4294967296 / b := Int.ediv_nonneg (by omega) (by omega)
    have h2 : a * 4294967296 / b < 18446744073709551616 := by
      rw [Int.ediv_lt_iff_lt_mul (by omega)]; omega
    unfold rnd
    split <;> exact ⟨by omega, fun _ => by omega⟩
  · rw [if_neg h]; exact ⟨by omega, fun _ => by omega⟩

theorem sgn_quoF (neg : Bool) (a b : Int) (ha : 0 ≤ a) (hb : 0 < b) : sgn neg (quoF a b) = sgn neg (rndFull (a * 4294967296 / b) (a * 4294967296 % b) b) := by
  unfold quoF
  by_cases h : a / 4294967296 < b
  · rw [if_pos h, sgn_rnd]
  · rw [if_neg h, sgn_big _ _ (by omega)]
    have h1 : 9223372036854775808 ≤ a * 4294967296 / b := by
      rw [Int.le_ediv_iff_mul_le hb]; omega
    rw [sgn_big _ _ (by unfold rndFull; split <;> omega)]
theorem sgn_quoF_zero (neg : Bool) (a : Int) (ha : 0 ≤ a) : sgn neg (quoF a 0) = if neg then -9223372036854775808 else 9223372036854775807 := by
  unfold quoF
  rw [if_neg (by omega), sgn_big _ _ (by omega)]
theorem divF_eq (x y : Int) (hx : x ≠ 0) : sgn (decide (x < 0) != decide (y < 0)) (quoF (mag x) (mag y)) = divF x y := by
  have mx : 0 ≤ mag x := by unfold mag; split <;> omega
  unfold divF
  rw [if_neg hx]
  by_cases hy : y = 0
  · subst hy
    have e : mag 0 = 0 := rfl
    rw [if_pos rfl, e, sgn_quoF_zero _ _ mx]
    by_cases c : x < 0
    · simp [c]
    · simp [c]
  · rw [if_neg hy, sgn_quoF _ _ _ mx (by unfold mag; split <;> omega)]

end Go.Proofs.Ytdimpgojamhakaa

/-
  General words for walks: results, slices of 64-bit integers, worlds.
-/
namespace Go.Proofs.Ytdimpgojamhakaa
open Go.RowKit
set_option linter.unusedVariables false
set_option linter.unusedSimpArgs false

theorem ret_int {k : IntKind} {a b : Int} (h : a = b) : Ending.returned (.int k a) = .returned (.int k b) := by rw [h]
theorem ret_bool {a b : Bool} (h : a = b) : Ending.returned (.bool a) = .returned (.bool b) := by rw [h]
theorem ret_ints2 {k k' : IntKind} {a b c d : Int} (h : a = b) (h' : c = d) : Ending.returned (.tuple #[.int k a, .int k' c]) = .returned (.tuple #[.int k b, .int k' d]) := by rw [h, h']

/-- Every element is an integer of 64 bits. -/
def Fits (l : List Int) : Prop := ∀ n ∈ l, -9223372036854775808 ≤ n ∧ n ≤ 9223372036854775807
theorem Fits.getD {l : List Int} (h : Fits l) (k : Nat) : -9223372036854775808 ≤ l.getD k 0 ∧ l.getD k 0 ≤ 9223372036854775807 := by
  by_cases hk : k < l.length
  · have e : l.getD k 0 = l[k] := by simp [List.getD, List.getElem?_eq_getElem hk]
    rw [e]; exact h _ (List.getElem_mem hk)
  · have e : l.getD k 0 = 0 := by simp [List.getD, List.getElem?_eq_none (show l.length ≤ k by omega)]
    rw [e]; omega

theorem flipW {P : Program} {f : FuncId} {args : Array Value} {w : World} {v : Value} (h : Calls P f args w fun e w' => e = .returned v ∧ w = w') : Calls P f args w fun e w' => e = .returned v ∧ w' = w :=
  h.mono fun _ _ ⟨he, hw⟩ => ⟨he, hw.symm⟩

/-- A slice holds these integers. -/
def IntsAt (w : World) (a : Option Addr) (len : Nat) (zs : List Int) : Prop :=
  zs.length = len ∧ len ≤ 9223372036854775807 ∧ Fits zs ∧ (len = 0 ∨ ∃ b off, a = some ⟨b, off, none⟩ ∧ ∀ j, j < len → w.cell? ⟨b, off + j, none⟩ = some (.int .i64 (zs.getD j 0)))

theorem IntsAt.nil (w : World) (a : Option Addr) : IntsAt w a 0 [] := ⟨rfl, by omega, (fun n hn => (List.not_mem_nil hn).elim), .inl rfl⟩

theorem IntsAt.of_row {w : World} {x : Addr} {len cap : Nat} {zs : List Int} (hl : len ≤ cap) (hm : cap ≤ maxLen) (hz : zs.length = cap)
    (hcell : ∀ i, i < zs.length → w.cell? (x.add i) = some (.int .i64 (zs.getD i 0))) (hwz : ∀ n ∈ zs, (Lit.int .i64 n).wf = true) : IntsAt w (some x) len (zs.take len) := by
  unfold maxLen at hm
  refine ⟨by rw [List.length_take]; omega, by omega, ?_, ?_⟩
  · intro n hn
    have h := hwz n (List.mem_of_mem_take hn)
    simp [Lit.wf, IntKind.min, IntKind.max, IntKind.bits, IntKind.signed] at h
    omega
  · by_cases h0 : len = 0
    · exact .inl h0
    · obtain ⟨b, off, rfl, hc⟩ := ints_at hcell (by omega)
      refine .inr ⟨b, off, rfl, fun j hj => ?_⟩
      rw [hc j (by omega)]
      simp [List.getD, List.getElem?_take, hj]

theorem IntsAt.intro {w : World} {a : Option Addr} {len : Nat} {zs : List Int} (h1 : zs.length = len) (h2 : len ≤ 9223372036854775807) (h3 : Fits zs)
    (h4 : len = 0 ∨ ∃ b off, a = some ⟨b, off, none⟩ ∧ ∀ j, j < len → w.cell? ⟨b, off + j, none⟩ = some (.int .i64 (zs.getD j 0))) : IntsAt w a len zs := ⟨h1, h2, h3, h4⟩

theorem IntsAt.below {w w' : World} {a : Option Addr} {len : Nat} {zs : List Int} (h : IntsAt w a len zs) (hb : ∀ p v, w.cell? p = some v → w'.cell? p = some v) : IntsAt w' a len zs := by
  obtain ⟨h1, h2, h3, h4⟩ := h
  refine ⟨h1, h2, h3, ?_⟩
  rcases h4 with h4 | ⟨b, off, ha, hc⟩
  · exact .inl h4
  · exact .inr ⟨b, off, ha, fun j hj => hb _ _ (hc j hj)⟩

theorem below_drewN' {B : Nat} {a w : World} (h : Below B a w) (n : Nat) : Below B a (w.drewN n) := h.trans ⟨rfl, rfl, rfl, Nat.le_refl _, fun _ _ => rfl⟩

theorem bcell {W w1 : World} (hb : Below W.heap.size W w1) : (∀ b o, b < W.heap.size → w1.cell? ⟨b, o, none⟩ = W.cell? ⟨b, o, none⟩) ∧ (∀ b o, b < W.heap.size → w1.frozen? ⟨b, o, none⟩ = W.frozen? ⟨b, o, none⟩) :=
  ⟨fun b o h => hb.cell (p := ⟨b, o, none⟩) h, fun b o h => hb.frozen (p := ⟨b, o, none⟩) h⟩

theorem IntsAt.kept {w w' : World} {a : Option Addr} {len : Nat} {zs : List Int} (h : IntsAt w a len zs) (hb : Below w.heap.size w w') : IntsAt w' a len zs :=
  h.below fun p v hp => cell_later hb hp

/-- A new slice of these integers. -/
theorem IntsAt.made (W : World) (t : TypeId) (zs : List Int) (n : Nat) (hn : zs.length = n) (h1 : n ≤ 9223372036854775807) (h : Fits zs) :
    IntsAt (W.alloc (.cells (zs.map (Value.int .i64)).toArray t)) (some ⟨W.heap.size, 0, none⟩) n zs := by
  refine ⟨hn, h1, h, .inr ⟨W.heap.size, 0, rfl, ?_⟩⟩
  intro j hj
  rw [World.cell?_alloc_new]
  simp [List.getD, List.getElem?_eq_getElem (show j < zs.length by omega)]
end Go.Proofs.Ytdimpgojamhakaa

/-
  Plain mathematics of sums and dot products of lists of saturating numbers.
-/
namespace Go.Proofs.Ytdimpgojamhakaa
set_option linter.unusedVariables false
set_option linter.unusedSimpArgs false

/-- The sum of the elements, saturated after each addition. -/
def sumF (l : List Int) : Int := l.foldl (fun s x => sat (s + x)) 0
theorem sumF_step (l : List Int) (k : Nat) (hk : k < l.length) : sumF (l.take (k + 1)) = sat (sumF (l.take k) + l.getD k 0) := by
  unfold sumF
  rw [List.take_add_one, List.foldl_append]
  simp [List.getD, List.getElem?_eq_getElem hk]
theorem sumF_bounds (l : List Int) : -9223372036854775808 ≤ sumF l ∧ sumF l ≤ 9223372036854775807 := by
  unfold sumF
  cases h : l.reverse with
  | nil =>
    have : l = [] := by simpa using h
    subst this; simp
  | cons a r =>
    have : l = r.reverse ++ [a] := by rw [← List.reverse_reverse l, h]; simp
    subst this
    rw [List.foldl_append]
    exact sat_bounds _

/-- The sum of the products of the elements at the same index. -/
def dotF (a b : List Int) : Int := (a.zip b).foldl (fun s x => sat (s + mulF x.1 x.2)) 0
theorem dotF_step (a b : List Int) (k : Nat) (ha : k < a.length) (hb : k < b.length) : dotF (a.take (k + 1)) (b.take (k + 1)) = sat (dotF (a.take k) (b.take k) + mulF (a.getD k 0) (b.getD k 0)) := by
  unfold dotF
  have e : (a.take (k + 1)).zip (b.take (k + 1)) = (a.take k).zip (b.take k) ++ [(a.getD k 0, b.getD k 0)] := by
    rw [List.take_add_one, List.take_add_one, List.getElem?_eq_getElem ha, List.getElem?_eq_getElem hb, List.zip_append (by simp; omega)]
    simp [List.getD, List.getElem?_eq_getElem ha, List.getElem?_eq_getElem hb]
  rw [e, List.foldl_append]
  rfl
theorem dotF_bounds (a b : List Int) : -9223372036854775808 ≤ dotF a b ∧ dotF a b ≤ 9223372036854775807 := by
  unfold dotF
  generalize a.zip b = l
  cases h : l.reverse with
  | nil =>
    have : l = [] := by simpa using h
    subst this; simp
  | cons a r =>
    have : l = r.reverse ++ [a] := by rw [← List.reverse_reverse l, h]; simp
    subst this
    rw [List.foldl_append]
    exact sat_bounds _
theorem dotF_full (a b : List Int) (k : Nat) (h : k = min a.length b.length) : dotF (a.take k) (b.take k) = dotF a b := by
  unfold dotF
  subst h
  congr 1
  induction a generalizing b with
  | nil => simp
  | cons x a ih => cases b with
    | nil => simp
    | cons y b => simp [Nat.succ_min_succ, ih b]

end Go.Proofs.Ytdimpgojamhakaa

/-
  Layer 7 in mathematics: numbers added to cells one after another; the products of a convolution in their order; windows.
-/
namespace Go.Proofs.Ytdimpgojamhakaa
set_option linter.unusedVariables false
set_option linter.unusedSimpArgs false

/-- A number is added to the cell at a place. -/
def addAt (out : List Int) (k : Nat) (v : Int) : List Int := out.set k (sat (out.getD k 0 + v))
theorem addAt_length (out : List Int) (k : Nat) (v : Int) : (addAt out k v).length = out.length := by simp [addAt]
theorem addAt_same {out : List Int} {k : Nat} (v : Int) (h : k < out.length) : (addAt out k v).getD k 0 = sat (out.getD k 0 + v) := by
  simp [addAt, List.getD, h]
theorem addAt_other {out : List Int} {k j : Nat} (v : Int) (h : k ≠ j) : (addAt out k v).getD j 0 = out.getD j 0 := by
  simp [addAt, List.getD, List.getElem?_set_ne h]
/-- Numbers are added, one after another, each to the cell at its place, from noughts. -/
def runL (N : Nat) (ts : List (Nat × Int)) : List Int := ts.foldl (fun out t => addAt out t.1 t.2) (List.replicate N 0)
theorem runL_nil (N : Nat) : runL N [] = List.replicate N 0 := rfl
theorem runL_snoc (N : Nat) (ts : List (Nat × Int)) (t : Nat × Int) : runL N (ts ++ [t]) = addAt (runL N ts) t.1 t.2 := by simp [runL, List.foldl_append]
theorem runL_length (N : Nat) (ts : List (Nat × Int)) : (runL N ts).length = N := by
  unfold runL
  suffices h : ∀ (l : List Int), (ts.foldl (fun out t => addAt out t.1 t.2) l).length = l.length by rw [h]; simp
  induction ts with
  | nil => intro l; rfl
  | cons t r ih => intro l; rw [List.foldl_cons, ih, addAt_length]
theorem addAt_fits {out : List Int} (h : Fits out) (k : Nat) (v : Int) : Fits (addAt out k v) := by
  intro n hn
  unfold addAt at hn
  rcases List.mem_or_eq_of_mem_set hn with h' | rfl
  · exact h n h'
  · exact sat_bounds _
theorem runL_fits (N : Nat) (ts : List (Nat × Int)) : Fits (runL N ts) := by
  unfold runL
  suffices h : ∀ (l : List Int), Fits l → Fits (ts.foldl (fun out t => addAt out t.1 t.2) l) by
    refine h _ ?_
    intro n hn
    rw [List.mem_replicate] at hn
    omega
  induction ts with
  | nil => intro l h; exact h
  | cons t r ih => intro l h; rw [List.foldl_cons]; exact ih _ (addAt_fits h _ _)
/-- What was added to one place, in its order. -/
def atL (k : Nat) (ts : List (Nat × Int)) : List Int := (ts.filter fun t => t.1 == k).map fun t => t.2
theorem sumF_snoc (l : List Int) (x : Int) : sumF (l ++ [x]) = sat (sumF l + x) := by simp [sumF, List.foldl_append]
theorem runL_get {N k : Nat} (hk : k < N) (ts : List (Nat × Int)) : (runL N ts).getD k 0 = sumF (atL k ts) := by
  suffices h : ∀ (n : Nat) (l : List (Nat × Int)), l.length = n → (runL N l).getD k 0 = sumF (atL k l) from h _ ts rfl
  intro n
  induction n with
  | zero =>
    intro l hl
    obtain rfl := List.length_eq_zero_iff.1 hl
    simp [runL, atL, sumF, List.getD, hk]
  | succ n ih =>
    intro l hl
    obtain ⟨r, t, rfl⟩ : ∃ r t, l = r ++ [t] := by
      have hne : l ≠ [] := by intro e; subst e; simp at hl
      exact ⟨l.dropLast, l.getLast hne, (List.dropLast_concat_getLast hne).symm⟩
    have hr : r.length = n := by simp at hl; exact hl
    rw [runL_snoc]
    by_cases c : t.1 = k
    · subst c
      rw [addAt_same _ (by rw [runL_length]; exact hk), ih r hr]
      have : atL t.1 (r ++ [t]) = atL t.1 r ++ [t.2] := by simp [atL, List.filter_append]
      rw [this, sumF_snoc]
    · rw [addAt_other _ c, ih r hr]
      have : atL k (r ++ [t]) = atL k r := by simp [atL, List.filter_append, c]
      rw [this]

/-- A list put together of parts, one for each number below k. -/
def partsL {α : Type} (f : Nat → List α) (k : Nat) : List α := (List.range k).flatMap f
theorem partsL_zero {α : Type} (f : Nat → List α) : partsL f 0 = [] := by simp [partsL]
theorem partsL_succ {α : Type} (f : Nat → List α) (k : Nat) : partsL f (k + 1) = partsL f k ++ f k := by simp [partsL, List.range_succ, List.flatMap_append]
theorem partsL_length {α : Type} {f : Nat → List α} {n : Nat} (h : ∀ k, (f k).length = n) (k : Nat) : (partsL f k).length = k * n := by
  induction k with
  | zero => simp [partsL_zero]
  | succ k ih => rw [partsL_succ, List.length_append, ih, h, Nat.succ_mul]
theorem partsL_mem {α : Type} {f : Nat → List α} {k : Nat} {x : α} : x ∈ partsL f k ↔ ∃ j, j < k ∧ x ∈ f j := by
  simp [partsL, List.mem_flatMap]

/-- What comes together (numbers of the reference's plan), with the numbers of windows down and right. -/
structure PlanN where
  O : Nat
  C : Nat
  K : Nat
  L : Nat
  H : Nat
  W : Nat
  dn : Nat
  rt : Nat
  m : Nat
  n : Nat
/-- The three places of a product: in the answer, in the kernel, in what comes in. -/
def PlanN.a (p : PlanN) (o i j : Nat) : Nat := (o * p.m + i) * p.n + j
def PlanN.b (p : PlanN) (o c t u : Nat) : Nat := ((o * p.C + c) * p.K + t) * p.L + u
def PlanN.d (p : PlanN) (i j c t u : Nat) : Nat := (c * p.H + i * p.dn + t) * p.W + j * p.rt + u
abbrev Tri := Nat × Nat × Nat
def PlanN.lU (p : PlanN) (o i j c t k : Nat) : List Tri := partsL (fun u => [(p.a o i j, p.b o c t u, p.d i j c t u)]) k
def PlanN.lT (p : PlanN) (o i j c k : Nat) : List Tri := partsL (fun t => p.lU o i j c t p.L) k
def PlanN.lC (p : PlanN) (o i j k : Nat) : List Tri := partsL (fun c => p.lT o i j c p.K) k
def PlanN.lJ (p : PlanN) (o i k : Nat) : List Tri := partsL (fun j => p.lC o i j p.C) k
def PlanN.lI (p : PlanN) (o k : Nat) : List Tri := partsL (fun i => p.lJ o i p.n) k
def PlanN.lO (p : PlanN) (k : Nat) : List Tri := partsL (fun o => p.lI o p.m) k
/-- All products in their order. -/
def PlanN.all (p : PlanN) : List Tri := p.lO p.O
theorem PlanN.lU_succ (p : PlanN) (o i j c t k : Nat) : p.lU o i j c t (k + 1) = p.lU o i j c t k ++ [(p.a o i j, p.b o c t k, p.d i j c t k)] := partsL_succ _ _
theorem PlanN.lT_succ (p : PlanN) (o i j c k : Nat) : p.lT o i j c (k + 1) = p.lT o i j c k ++ p.lU o i j c k p.L := partsL_succ _ _
theorem PlanN.lC_succ (p : PlanN) (o i j k : Nat) : p.lC o i j (k + 1) = p.lC o i j k ++ p.lT o i j k p.K := partsL_succ _ _
theorem PlanN.lJ_succ (p : PlanN) (o i k : Nat) : p.lJ o i (k + 1) = p.lJ o i k ++ p.lC o i k p.C := partsL_succ _ _
theorem PlanN.lI_succ (p : PlanN) (o k : Nat) : p.lI o (k + 1) = p.lI o k ++ p.lJ o k p.n := partsL_succ _ _
theorem PlanN.lO_succ (p : PlanN) (k : Nat) : p.lO (k + 1) = p.lO k ++ p.lI k p.m := partsL_succ _ _
theorem PlanN.lU_zero (p : PlanN) (o i j c t : Nat) : p.lU o i j c t 0 = [] := partsL_zero _
theorem PlanN.lT_zero (p : PlanN) (o i j c : Nat) : p.lT o i j c 0 = [] := partsL_zero _
theorem PlanN.lC_zero (p : PlanN) (o i j : Nat) : p.lC o i j 0 = [] := partsL_zero _
theorem PlanN.lJ_zero (p : PlanN) (o i : Nat) : p.lJ o i 0 = [] := partsL_zero _
theorem PlanN.lI_zero (p : PlanN) (o : Nat) : p.lI o 0 = [] := partsL_zero _
theorem PlanN.lO_zero (p : PlanN) : p.lO 0 = [] := partsL_zero _
/-- How many products there are. -/
theorem PlanN.all_length (p : PlanN) : p.all.length = p.O * (p.m * (p.n * (p.C * (p.K * p.L)))) := by
  unfold PlanN.all PlanN.lO
  rw [partsL_length (n := p.m * (p.n * (p.C * (p.K * p.L))))]
  intro o
  unfold PlanN.lI
  rw [partsL_length (n := p.n * (p.C * (p.K * p.L)))]
  intro i
  unfold PlanN.lJ
  rw [partsL_length (n := p.C * (p.K * p.L))]
  intro j
  unfold PlanN.lC
  rw [partsL_length (n := p.K * p.L)]
  intro c
  unfold PlanN.lT
  rw [partsL_length (n := p.L)]
  intro t
  unfold PlanN.lU
  rw [partsL_length (n := 1)]
  · omega
  · intro u; rfl

/-- A number in a grid of two sides. -/
theorem two_in {m n i j : Nat} (hi : i < m) (hj : j < n) : i * n + j < m * n := by
  have : (i + 1) * n ≤ m * n := Nat.mul_le_mul_right n hi
  rw [Nat.add_mul, Nat.one_mul] at this
  omega
theorem PlanN.a_in (p : PlanN) {o i j : Nat} (ho : o < p.O) (hi : i < p.m) (hj : j < p.n) : p.a o i j < p.O * p.m * p.n := two_in (two_in ho hi) hj
theorem PlanN.b_in (p : PlanN) {o c t u : Nat} (ho : o < p.O) (hc : c < p.C) (ht : t < p.K) (hu : u < p.L) : p.b o c t u < p.O * p.C * p.K * p.L := two_in (two_in (two_in ho hc) ht) hu
theorem PlanN.d_in (p : PlanN) {i j c t u : Nat} (hc : c < p.C) (hy : i * p.dn + t < p.H) (hx : j * p.rt + u < p.W) : p.d i j c t u < p.C * p.H * p.W := by
  have h1 := two_in hc hy
  have h2 := two_in h1 hx
  unfold PlanN.d
  rw [← Nat.add_assoc, ← Nat.add_assoc] at h2
  exact h2

/-- In how many places a window fits; 0: none. -/
def winC (side width step : Nat) : Nat := if 1 ≤ width ∧ 1 ≤ step ∧ width ≤ side then (side - width) / step + 1 else 0
theorem winC_fits {side width step k : Nat} (hs : 1 ≤ step) (hw : 1 ≤ width) (h : width ≤ side) : k < winC side width step ↔ k * step + width ≤ side := by
  unfold winC
  rw [if_pos ⟨hw, hs, h⟩, Nat.lt_succ_iff, Nat.le_div_iff_mul_le (by omega)]
  omega
theorem winC_none {side width step : Nat} (h : side < width) : winC side width step = 0 := by
  unfold winC
  rw [if_neg (by omega)]
theorem winC_pos {side width step : Nat} (hs : 1 ≤ step) (hw : 1 ≤ width) (h : width ≤ side) : 1 ≤ winC side width step := by
  unfold winC
  rw [if_pos ⟨hw, hs, h⟩]
  exact Nat.le_add_left 1 _
theorem winC_le {side width step : Nat} (hs : 1 ≤ step) (hw : 1 ≤ width) (h : width ≤ side) : winC side width step ≤ side := by
  have h1 := (winC_fits (k := winC side width step - 1) hs hw h).1 (by have := winC_pos hs hw h; omega)
  have h2 : (winC side width step - 1) * 1 ≤ (winC side width step - 1) * step := Nat.mul_le_mul_left _ hs
  omega
/-- The reference's count of windows: it stands at k places, at · = k steps. -/
theorem winC_end {side width step k : Nat} (hs : 1 ≤ step) (hw : 1 ≤ width) (h : width ≤ side) (h1 : ¬ k * step + width ≤ side) (h2 : ∀ j, j < k → j * step + width ≤ side) : k = winC side width step := by
  have a := mt (winC_fits (k := k) hs hw h).1 h1
  by_cases c : k = 0
  · subst c; have := winC_pos hs hw h; omega
  · have b := (winC_fits (k := k - 1) hs hw h).2 (h2 (k - 1) (by omega))
    omega

/-- Members of the lists, level by level. -/
def PlanN.tri (p : PlanN) (o i j c t u : Nat) : Tri := (p.a o i j, p.b o c t u, p.d i j c t u)
theorem PlanN.lU_mem {p : PlanN} {o i j c t k : Nat} {x : Tri} (h : x ∈ p.lU o i j c t k) : ∃ u, u < k ∧ x = p.tri o i j c t u := by
  obtain ⟨u, hu, hx⟩ := partsL_mem.1 h
  exact ⟨u, hu, List.mem_singleton.1 hx⟩
theorem PlanN.lT_mem {p : PlanN} {o i j c k : Nat} {x : Tri} (h : x ∈ p.lT o i j c k) : ∃ t u, t < k ∧ u < p.L ∧ x = p.tri o i j c t u := by
  obtain ⟨t, ht, hx⟩ := partsL_mem.1 h
  obtain ⟨u, hu, e⟩ := PlanN.lU_mem hx
  exact ⟨t, u, ht, hu, e⟩
theorem PlanN.lC_mem {p : PlanN} {o i j k : Nat} {x : Tri} (h : x ∈ p.lC o i j k) : ∃ c t u, c < k ∧ t < p.K ∧ u < p.L ∧ x = p.tri o i j c t u := by
  obtain ⟨c, hc, hx⟩ := partsL_mem.1 h
  obtain ⟨t, u, ht, hu, e⟩ := PlanN.lT_mem hx
  exact ⟨c, t, u, hc, ht, hu, e⟩
theorem PlanN.lJ_mem {p : PlanN} {o i k : Nat} {x : Tri} (h : x ∈ p.lJ o i k) : ∃ j c t u, j < k ∧ c < p.C ∧ t < p.K ∧ u < p.L ∧ x = p.tri o i j c t u := by
  obtain ⟨j, hj, hx⟩ := partsL_mem.1 h
  obtain ⟨c, t, u, hc, ht, hu, e⟩ := PlanN.lC_mem hx
  exact ⟨j, c, t, u, hj, hc, ht, hu, e⟩
theorem PlanN.lI_mem {p : PlanN} {o k : Nat} {x : Tri} (h : x ∈ p.lI o k) : ∃ i j c t u, i < k ∧ j < p.n ∧ c < p.C ∧ t < p.K ∧ u < p.L ∧ x = p.tri o i j c t u := by
  obtain ⟨i, hi, hx⟩ := partsL_mem.1 h
  obtain ⟨j, c, t, u, hj, hc, ht, hu, e⟩ := PlanN.lJ_mem hx
  exact ⟨i, j, c, t, u, hi, hj, hc, ht, hu, e⟩
theorem PlanN.lO_mem {p : PlanN} {k : Nat} {x : Tri} (h : x ∈ p.lO k) : ∃ o i j c t u, o < k ∧ i < p.m ∧ j < p.n ∧ c < p.C ∧ t < p.K ∧ u < p.L ∧ x = p.tri o i j c t u := by
  obtain ⟨o, ho, hx⟩ := partsL_mem.1 h
  obtain ⟨i, j, c, t, u, hi, hj, hc, ht, hu, e⟩ := PlanN.lI_mem hx
  exact ⟨o, i, j, c, t, u, ho, hi, hj, hc, ht, hu, e⟩
/-- Every window lies within what comes in. -/
structure PlanN.Ok (p : PlanN) : Prop where
  down : ∀ i, i < p.m → i * p.dn + p.K ≤ p.H
  right : ∀ j, j < p.n → j * p.rt + p.L ≤ p.W
theorem PlanN.all_in {p : PlanN} (h : p.Ok) {x : Tri} (hx : x ∈ p.all) : x.1 < p.O * p.m * p.n ∧ x.2.1 < p.O * p.C * p.K * p.L ∧ x.2.2 < p.C * p.H * p.W := by
  obtain ⟨o, i, j, c, t, u, ho, hi, hj, hc, ht, hu, rfl⟩ := PlanN.lO_mem hx
  have := h.down i hi
  have := h.right j hj
  exact ⟨p.a_in ho hi hj, p.b_in ho hc ht hu, p.d_in hc (by omega) (by omega)⟩

theorem lex_lt {n i i' j : Nat} (j' : Nat) (hi : i < i') (hj : j < n) : i * n + j < i' * n + j' := by
  have : (i + 1) * n ≤ i' * n := Nat.mul_le_mul_right n hi
  rw [Nat.add_mul, Nat.one_mul] at this
  omega
theorem lex_same {n i j j' : Nat} (hj : j < j') : i * n + j < i * n + j' := by omega
/-- A product that comes later: another cell of the answer, or the same with greater places. -/
def later (x y : Tri) : Prop := x.1 < y.1 ∨ (x.1 = y.1 ∧ x.2.1 < y.2.1 ∧ x.2.2 < y.2.2)
theorem partsL_pairwise {α : Type} {R : α → α → Prop} {f : Nat → List α} {k : Nat} (h1 : ∀ j, j < k → (f j).Pairwise R) (h2 : ∀ i j, i < j → j < k → ∀ x ∈ f i, ∀ y ∈ f j, R x y) : (partsL f k).Pairwise R := by
  induction k with
  | zero => rw [partsL_zero]; exact List.Pairwise.nil
  | succ k ih =>
    rw [partsL_succ, List.pairwise_append]
    refine ⟨ih (fun j hj => h1 j (by omega)) (fun i j hij hj => h2 i j hij (by omega)), h1 k (by omega), ?_⟩
    intro x hx y hy
    obtain ⟨i, hi, hx⟩ := partsL_mem.1 hx
    exact h2 i k hi (by omega) x hx y hy
theorem PlanN.sorted {p : PlanN} (h : p.Ok) : p.all.Pairwise later := by
  unfold PlanN.all PlanN.lO
  refine partsL_pairwise (fun o ho => ?_) (fun o o' hoo ho x hx y hy => ?_)
  · unfold PlanN.lI
    refine partsL_pairwise (fun i hi => ?_) (fun i i' hii hi x hx y hy => ?_)
    · unfold PlanN.lJ
      refine partsL_pairwise (fun j hj => ?_) (fun j j' hjj hj x hx y hy => ?_)
      · have hd := h.down i hi
        have hr := h.right j hj
        unfold PlanN.lC
        refine partsL_pairwise (fun c hc => ?_) (fun c c' hcc hc x hx y hy => ?_)
        · unfold PlanN.lT
          refine partsL_pairwise (fun t ht => ?_) (fun t t' htt ht x hx y hy => ?_)
          · unfold PlanN.lU
            refine partsL_pairwise (fun u hu => List.pairwise_singleton _ _) (fun u u' huu hu x hx y hy => ?_)
            rw [List.mem_singleton] at hx hy
            subst hx hy
            refine .inr ⟨rfl, ?_, ?_⟩
            · show p.b o c t u < p.b o c t u'
              unfold PlanN.b; omega
            · show p.d i j c t u < p.d i j c t u'
              unfold PlanN.d; omega
          · obtain ⟨u, hu, rfl⟩ := PlanN.lU_mem hx
            obtain ⟨u', hu', rfl⟩ := PlanN.lU_mem hy
            refine .inr ⟨rfl, lex_lt _ (lex_same htt) hu, ?_⟩
            show p.d i j c t u < p.d i j c t' u'
            unfold PlanN.d
            have := lex_lt (n := p.W) (i := c * p.H + i * p.dn + t) (i' := c * p.H + i * p.dn + t') (j := j * p.rt + u) (j * p.rt + u') (by omega) (by omega)
            omega
        · obtain ⟨t, u, ht, hu, rfl⟩ := PlanN.lT_mem hx
          obtain ⟨t', u', ht', hu', rfl⟩ := PlanN.lT_mem hy
          refine .inr ⟨rfl, lex_lt _ (lex_lt _ (lex_same hcc) ht) hu, ?_⟩
          show p.d i j c t u < p.d i j c' t' u'
          unfold PlanN.d
          have h1 := lex_lt (n := p.H) (i := c) (i' := c') (j := i * p.dn + t) (i * p.dn + t') hcc (by omega)
          have h2 := lex_lt (n := p.W) (i := c * p.H + i * p.dn + t) (i' := c' * p.H + i * p.dn + t') (j := j * p.rt + u) (j * p.rt + u') (by omega) (by omega)
          omega
      · obtain ⟨c, t, u, -, -, -, rfl⟩ := PlanN.lC_mem hx
        obtain ⟨c', t', u', -, -, -, rfl⟩ := PlanN.lC_mem hy
        exact .inl (lex_same hjj)
    · obtain ⟨j, c, t, u, hj, -, -, -, rfl⟩ := PlanN.lJ_mem hx
      obtain ⟨j', c', t', u', hj', -, -, -, rfl⟩ := PlanN.lJ_mem hy
      exact .inl (lex_lt _ (lex_same hii) hj)
  · obtain ⟨i, j, c, t, u, hi, hj, -, -, -, rfl⟩ := PlanN.lI_mem hx
    obtain ⟨i', j', c', t', u', hi', hj', -, -, -, rfl⟩ := PlanN.lI_mem hy
    exact .inl (lex_lt _ (lex_lt _ hoo hi) hj)
end Go.Proofs.Ytdimpgojamhakaa

/-
  New slices of 64-bit integers: rows that nobody else holds.
-/
namespace Go.Proofs.Ytdimpgojamhakaa
open Go.RowKit
set_option linter.unusedVariables false
set_option linter.unusedSimpArgs false

theorem intInfo : (Try.prog.info? 3).map (fun i => (i.zero, i.size, i.bytes)) = some (some (.int .i64 0), 1, 8) := by kernel_rfl

/-- A new row of integers reads as these integers. -/
theorem row_ints {w : World} {B : Nat} {e : TypeId} {A : Option Addr} {n cap : Nat} {zs : List Int} (h : w.ownsRow B e 1 (.slice A n cap) n (zs.map (Value.int .i64))) (h1 : n ≤ 9223372036854775807) (hf : Fits zs) : IntsAt w A n zs := by
  have hl : zs.length = n := by have := h.1; simpa using this
  refine ⟨hl, h1, hf, ?_⟩
  by_cases hn : 0 < n
  · obtain ⟨g, cap', hv⟩ := Joins.ownsRow_form h hn
    simp only [Value.slice.injEq] at hv
    obtain ⟨rfl, -, rfl⟩ := hv
    refine .inr ⟨g, 0, rfl, fun j hj => ?_⟩
    rw [Nat.zero_add, h.cellAt j (by omega)]
    simp [List.getD, List.getElem?_eq_getElem (show j < zs.length by omega)]
  · exact .inl (by omega)

theorem own_ints {w : World} {B : Nat} {e : TypeId} {v : Value} {n : Nat} {zs : List Int} (h : w.ownsRow B e 1 v n (zs.map (Value.int .i64))) (hl : zs.length = n) (h1 : n ≤ 9223372036854775807) (hf : Fits zs) :
    ∃ A cap, v = .slice A n cap ∧ IntsAt w A n zs := by
  rcases Joins.ownsRow_forms h with ⟨rfl, rfl⟩ | ⟨g, cap, rfl⟩
  · exact ⟨_, _, rfl, row_ints h h1 hf⟩
  · exact ⟨_, _, rfl, row_ints h h1 hf⟩

/-- What came back is a new slice of these integers; all that was there before is as it was. -/
def NewInts (w : World) (n : Nat) (zs : List Int) (e : Ending) (w' : World) : Prop :=
  ∃ A cap, e = .returned (.slice A n cap) ∧ w'.ownsRow w.heap.size 3 1 (.slice A n cap) n (zs.map (Value.int .i64)) ∧ Below w.heap.size w w'

theorem Fits.set {l : List Int} (h : Fits l) (k : Nat) (x : Int) (h1 : -9223372036854775808 ≤ x) (h2 : x ≤ 9223372036854775807) : Fits (l.set k x) := by
  intro n hn
  rcases List.mem_or_eq_of_mem_set hn with h' | rfl
  · exact h n h'
  · exact ⟨h1, h2⟩

end Go.Proofs.Ytdimpgojamhakaa

/-
  Plain mathematics of package safe: bounds, sums and products of lists.
-/
namespace Go.Proofs.Ytdimpgojamhakaa
set_option linter.unusedVariables false
set_option linter.unusedSimpArgs false

/-- From lo to hi. -/
def inR (lo hi n : Int) : Bool := decide (lo ≤ n) && decide (n ≤ hi)
theorem inR_yes {lo hi n : Int} (h1 : lo ≤ n) (h2 : n ≤ hi) : inR lo hi n = true := by simp [inR, h1, h2]
theorem inR_low {lo hi n : Int} (h1 : ¬ lo ≤ n) : inR lo hi n = false := by simp [inR]; omega
theorem inR_high {lo hi n : Int} (h1 : ¬ n ≤ hi) : inR lo hi n = false := by simp [inR]; omega
theorem inR_bounds {lo hi n : Int} (h : inR lo hi n = true) : lo ≤ n ∧ n ≤ hi := by simpa [inR] using h

/-- All elements are from lo to hi. -/
def allR (lo hi : Int) (l : List Int) : Bool := l.all (inR lo hi)
theorem allR_step (lo hi : Int) (l : List Int) (k : Nat) (hk : k < l.length) (h : allR lo hi (l.take k) = true) (h' : inR lo hi (l.getD k 0) = true) : allR lo hi (l.take (k + 1)) = true := by
  unfold allR at *
  rw [List.take_add_one, List.all_append, h]
  simpa [List.getElem?_eq_getElem hk, List.getD] using h'
theorem allR_stop (lo hi : Int) (l : List Int) (k : Nat) (hk : k < l.length) (h' : inR lo hi (l.getD k 0) = false) : false = allR lo hi l := by
  unfold allR
  symm
  rw [List.all_eq_false]
  refine ⟨l[k], List.getElem_mem hk, ?_⟩
  have : l.getD k 0 = l[k] := by simp [List.getD, List.getElem?_eq_getElem hk]
  rw [this] at h'
  simp [h']
theorem allR_full (lo hi : Int) (l : List Int) (k : Nat) (hk : l.length ≤ k) (h : allR lo hi (l.take k) = true) : true = allR lo hi l := by
  rw [List.take_of_length_le hk] at h; exact h.symm
theorem allR_getD {lo hi : Int} {l : List Int} (h : allR lo hi l = true) (k : Nat) (hk : k < l.length) : lo ≤ l.getD k 0 ∧ l.getD k 0 ≤ hi := by
  have : l.getD k 0 = l[k] := by simp [List.getD, List.getElem?_eq_getElem hk]
  rw [this]
  exact inR_bounds (List.all_eq_true.1 h _ (List.getElem_mem hk))
theorem allR_more {lo lo' hi : Int} {l : List Int} (hl : lo' ≤ lo) (h : allR lo hi l = true) : allR lo' hi l = true := by
  unfold allR at *
  rw [List.all_eq_true] at *
  intro x hx
  obtain ⟨a, b⟩ := inR_bounds (h x hx)
  exact inR_yes (by omega) b

/-- The sum and the product. -/
def sumI (l : List Int) : Int := l.foldl (· + ·) 0
def prodI (l : List Int) : Int := l.foldl (· * ·) 1
theorem foldl_add (l : List Int) (a : Int) : l.foldl (· + ·) a = a + sumI l := by
  unfold sumI
  induction l generalizing a with
  | nil => simp
  | cons x l ih => simp only [List.foldl_cons]; rw [ih, ih (0 + x)]; omega
theorem foldl_mul (l : List Int) (a : Int) : l.foldl (· * ·) a = a * prodI l := by
  unfold prodI
  induction l generalizing a with
  | nil => simp
  | cons x l ih => simp only [List.foldl_cons]; rw [ih, ih (1 * x), Int.one_mul, Int.mul_assoc]
theorem sumI_cons (x : Int) (l : List Int) : sumI (x :: l) = x + sumI l := by
  have := foldl_add l (0 + x); unfold sumI at *; simp only [List.foldl_cons]; omega
theorem prodI_cons (x : Int) (l : List Int) : prodI (x :: l) = x * prodI l := by
  have := foldl_mul l (1 * x); rw [Int.one_mul] at this; unfold prodI at *; simp only [List.foldl_cons, Int.one_mul]; exact this
theorem sumI_append (l m : List Int) : sumI (l ++ m) = sumI l + sumI m := by
  have := foldl_add m (sumI l); unfold sumI at *; rw [List.foldl_append]; exact this
theorem prodI_append (l m : List Int) : prodI (l ++ m) = prodI l * prodI m := by
  have := foldl_mul m (prodI l); unfold prodI at *; rw [List.foldl_append]; exact this
theorem sumI_step (l : List Int) (k : Nat) (hk : k < l.length) : sumI (l.take (k + 1)) = sumI (l.take k) + l.getD k 0 := by
  rw [List.take_add_one, sumI_append]; simp [List.getElem?_eq_getElem hk, List.getD, sumI]
theorem prodI_step (l : List Int) (k : Nat) (hk : k < l.length) : prodI (l.take (k + 1)) = prodI (l.take k) * l.getD k 0 := by
  rw [List.take_add_one, prodI_append]; simp [List.getElem?_eq_getElem hk, List.getD, prodI]
theorem sumI_nonneg {hi : Int} {l : List Int} (h : allR 0 hi l = true) : 0 ≤ sumI l := by
  induction l with
  | nil => simp [sumI]
  | cons x l ih =>
    unfold allR at h; rw [List.all_cons, Bool.and_eq_true] at h
    have := inR_bounds h.1; have := ih h.2; rw [sumI_cons]; omega
theorem prodI_pos {hi : Int} {l : List Int} (h : allR 1 hi l = true) : 1 ≤ prodI l := by
  induction l with
  | nil => simp [prodI]
  | cons x l ih =>
    unfold allR at h; rw [List.all_cons, Bool.and_eq_true] at h
    have := inR_bounds h.1; have := ih h.2; rw [prodI_cons]
    have := Int.mul_le_mul (show (1 : Int) ≤ x by omega) (show (1 : Int) ≤ prodI l by omega) (by omega) (by omega)
    omega
theorem allR_take {lo hi : Int} {l : List Int} (h : allR lo hi l = true) (k : Nat) : allR lo hi (l.take k) = true := by
  unfold allR at *; rw [List.all_eq_true] at *; intro x hx; exact h x (List.mem_of_mem_take hx)
theorem allR_drop {lo hi : Int} {l : List Int} (h : allR lo hi l = true) (k : Nat) : allR lo hi (l.drop k) = true := by
  unfold allR at *; rw [List.all_eq_true] at *; intro x hx; exact h x (List.mem_of_mem_drop hx)
theorem sumI_take_le {hi : Int} {l : List Int} (h : allR 0 hi l = true) (k : Nat) : sumI (l.take k) ≤ sumI l := by
  have e : sumI l = sumI (l.take k) + sumI (l.drop k) := by rw [← sumI_append, List.take_append_drop]
  have := sumI_nonneg (allR_drop h k); omega
theorem prodI_take_le {hi : Int} {l : List Int} (h : allR 1 hi l = true) (k : Nat) : prodI (l.take k) ≤ prodI l := by
  have e : prodI l = prodI (l.take k) * prodI (l.drop k) := by rw [← prodI_append, List.take_append_drop]
  have h1 := prodI_pos (allR_drop h k)
  have h2 := prodI_pos (allR_take h k)
  have := Int.mul_le_mul (show prodI (l.take k) ≤ prodI (l.take k) by omega) h1 (by omega) (by omega)
  omega
theorem prodI_zero {hi : Int} {l : List Int} (h : allR 0 hi l = true) (h' : allR 1 hi l = false) : prodI l = 0 := by
  unfold allR at h'
  rw [List.all_eq_false] at h'
  obtain ⟨x, hx, hn⟩ := h'
  obtain ⟨s, t, rfl⟩ := List.append_of_mem hx
  have hb := inR_bounds (List.all_eq_true.1 h x hx)
  have : x = 0 := by
    apply Decidable.byContradiction; intro hne
    exact hn (inR_yes (by omega) hb.2)
  subst this
  rw [prodI_append, prodI_cons]; simp

/-- What Add and Mul tell: the number and the error. -/
def addN (l : List Int) : Int := if allR 0 1099511627776 l = true ∧ sumI l ≤ 1099511627776 then sumI l else 0
def addE (l : List Int) : Int := if allR 0 1099511627776 l = true then (if sumI l ≤ 1099511627776 then 0 else 17) else 11
def mulN (l : List Int) : Int := if allR 0 1099511627776 l = true ∧ prodI l ≤ 1099511627776 then prodI l else 0
def mulE (l : List Int) : Int := if allR 0 1099511627776 l = true then (if prodI l ≤ 1099511627776 then 0 else 17) else 11
theorem add_bad {l : List Int} (h : allR 0 1099511627776 l = false) : 0 = addN l ∧ 11 = addE l := by simp [addN, addE, h]
theorem add_big {l : List Int} (h : allR 0 1099511627776 l = true) (h' : 1099511627776 < sumI l) : 0 = addN l ∧ 17 = addE l := by
  have : ¬ sumI l ≤ 1099511627776 := by omega
  simp [addN, addE, h, this]
theorem add_ok {l : List Int} (h : allR 0 1099511627776 l = true) (h' : sumI l ≤ 1099511627776) : sumI l = addN l ∧ 0 = addE l := by simp [addN, addE, h, h']
theorem mul_bad {l : List Int} (h : allR 0 1099511627776 l = false) : 0 = mulN l ∧ 11 = mulE l := by simp [mulN, mulE, h]
theorem mul_big {l : List Int} (h : allR 0 1099511627776 l = true) (h' : 1099511627776 < prodI l) : 0 = mulN l ∧ 17 = mulE l := by
  have : ¬ prodI l ≤ 1099511627776 := by omega
  simp [mulN, mulE, h, this]
theorem mul_ok {l : List Int} (h : allR 0 1099511627776 l = true) (h' : prodI l ≤ 1099511627776) : prodI l = mulN l ∧ 0 = mulE l := by simp [mulN, mulE, h, h']
theorem mul_nought {l : List Int} (h : allR 0 1099511627776 l = true) (h' : allR 1 1099511627776 l = false) : 0 = mulN l ∧ 0 = mulE l := by
  have e := prodI_zero h h'
  simp [mulN, mulE, h, e]
theorem addN_bounds (l : List Int) : 0 ≤ addN l ∧ addN l ≤ 1099511627776 := by
  unfold addN; split
  · rename_i h; exact ⟨sumI_nonneg h.1, h.2⟩
  · omega
theorem prodI_nonneg {hi : Int} {l : List Int} (h : allR 0 hi l = true) : 0 ≤ prodI l := by
  cases c : allR 1 hi l
  · rw [prodI_zero h c]; omega
  · have := prodI_pos c; omega
theorem mulN_bounds (l : List Int) : 0 ≤ mulN l ∧ mulN l ≤ 1099511627776 := by
  unfold mulN; split
  · rename_i h; exact ⟨prodI_nonneg h.1, h.2⟩
  · omega

/-- The greatest element, at least 0. -/
def maxI (l : List Int) : Int := l.foldl max 0
theorem maxI_step (l : List Int) (k : Nat) (hk : k < l.length) : maxI (l.take (k + 1)) = max (maxI (l.take k)) (l.getD k 0) := by
  unfold maxI; rw [List.take_add_one, List.foldl_append]; simp [List.getElem?_eq_getElem hk, List.getD]

/-- Turned round: the same. -/
theorem allR_reverse (lo hi : Int) (l : List Int) : allR lo hi l.reverse = allR lo hi l := by unfold allR; rw [List.all_reverse]
theorem sumI_reverse (l : List Int) : sumI l.reverse = sumI l := by
  induction l with
  | nil => rfl
  | cons x l ih =>
    have e : sumI [x] = x := by simp [sumI]
    rw [List.reverse_cons, sumI_append, e, sumI_cons, ih, Int.add_comm]
theorem prodI_reverse (l : List Int) : prodI l.reverse = prodI l := by
  induction l with
  | nil => rfl
  | cons x l ih =>
    have e : prodI [x] = x := by simp [prodI]
    rw [List.reverse_cons, prodI_append, e, prodI_cons, ih, Int.mul_comm]
theorem addN_reverse (l : List Int) : addN l.reverse = addN l := by unfold addN; rw [allR_reverse, sumI_reverse]
theorem addE_reverse (l : List Int) : addE l.reverse = addE l := by unfold addE; rw [allR_reverse, sumI_reverse]
theorem mulN_reverse (l : List Int) : mulN l.reverse = mulN l := by unfold mulN; rw [allR_reverse, prodI_reverse]
theorem mulE_reverse (l : List Int) : mulE l.reverse = mulE l := by unfold mulE; rw [allR_reverse, prodI_reverse]
end Go.Proofs.Ytdimpgojamhakaa

/-
  Contracts of package safe, the closures: within, Right, all.
-/
namespace Go.Proofs.Ytdimpgojamhakaa
open Go.RowKit
set_option linter.unusedVariables false
set_option linter.unusedSimpArgs false

set_option maxHeartbeats 400000 in
theorem within1_any (lo hi n : Int) (p q : Addr) (w : World) (hp : w.cell? p = some (.int .i64 lo)) (hq : w.cell? q = some (.int .i64 hi)) :
    Calls Try.prog 66 #[.int .i64 n, .pointer (some p), .pointer (some q)] w fun e w' => e = .returned (.bool (inR lo hi n)) ∧ w = w' := by
  by_cases c : lo ≤ n
  · by_cases d : n ≤ hi
    · have E := Lib.hid (inR_yes c d).symm
      go_enter Try.func66, Try.ntmps66
      go_wp2_with fail
      go_ret
      exact ⟨ret_bool E.out, rfl⟩
    · have E := Lib.hid (inR_high (lo := lo) d).symm
      go_enter Try.func66, Try.ntmps66
      go_wp2_with fail
      go_ret
      exact ⟨ret_bool E.out, rfl⟩
  · have E := Lib.hid (inR_low (hi := hi) c).symm
    go_enter Try.func66, Try.ntmps66
    go_wp2_with fail
    go_ret
    exact ⟨ret_bool E.out, rfl⟩

set_option maxHeartbeats 400000 in
theorem within_any (lo hi : Int) (w : World) :
    Calls Try.prog 62 #[.int .i64 lo, .int .i64 hi] w fun e w' => e = .returned (.func (.func 66) #[] #[.pointer (some ⟨w.heap.size, 0, none⟩), .pointer (some ⟨w.heap.size + 1, 0, none⟩)]) ∧
      w'.cell? ⟨w.heap.size, 0, none⟩ = some (.int .i64 lo) ∧ w'.cell? ⟨w.heap.size + 1, 0, none⟩ = some (.int .i64 hi) ∧ Below w.heap.size w w' ∧ w'.heap.size = w.heap.size + 2 := by
  have hmf : ∀ (fn : Fn) (first cap : Array Value) (w : World), (Instr.makeFunc fn first cap).run Try.prog w = .ok (.func fn first cap) w := fun _ _ _ _ => rfl
  go_enter Try.func62, Try.ntmps62
  go_wp2_with fail
  go_ret
  refine ⟨rfl, ?_, ?_, ((Below.refl _ _).alloc (Nat.le_refl _) _).alloc (by simp) _, by simp⟩
  · rw [World.cell?_alloc_past _ _ _ (by simp), World.cell?_alloc_at _ _ _ _ rfl]; rfl
  · rw [World.cell?_alloc_at _ _ _ _ (by simp)]; rfl

set_option maxHeartbeats 400000 in
theorem right_any (n : Int) (w : World) :
    Calls Try.prog 61 #[.int .i64 n] w fun e w' => e = .returned (.bool (inR 0 1099511627776 n)) ∧ Below w.heap.size w w' := by
  have C := Lib.hid (within_any 0 1099511627776 w)
  go_enter Try.func61, Try.ntmps61
  go_wp2_with fail
  refine C.out.mono ?_
  rintro e w1 ⟨rfl, hp, hq, hb, -⟩
  have D := Lib.hid (within1_any 0 1099511627776 n _ _ w1 hp hq)
  clear hp hq
  go_wp2_with fail
  refine D.out.mono ?_
  rintro e w2 ⟨rfl, rfl⟩
  go_wp2_with fail
  go_ret
  exact ⟨rfl, hb⟩

set_option maxHeartbeats 1000000 in
theorem all_right (a : Option Addr) (len cap : Nat) (zs : List Int) (w : World) (h : IntsAt w a len zs) :
    Calls Try.prog 60 #[.slice a len cap, .func (.func 61) #[] #[]] w fun e w' => e = .returned (.bool (allR 0 1099511627776 zs)) ∧ Below w.heap.size w w' := by
  obtain ⟨h1, h2, h3, h4⟩ := h
  go_enter Try.func60, Try.ntmps60
  go_wp2_with fail
  go_loopw [9] (fun i wr => ∃ k : Nat, k ≤ len ∧ i = .int .i64 k ∧ Hid (allR 0 1099511627776 (zs.take k) = true) ∧ Below w.heap.size w wr) (fun i _ => len - (intOf i).toNat)
  case atStart => exact ⟨0, Nat.zero_le _, rfl, rfl, Below.refl _ _⟩
  case round =>
    obtain ⟨k, hk, rfl, hall, hb⟩ := hrel
    by_cases hlt : k < len
    · rcases h4 with h4 | ⟨b, off, rfl, hc⟩
      · omega
      · have hcell := cell_later hb (hc k hlt)
        clear hc
        have S := Lib.hid (allR_step 0 1099511627776 zs k (by omega) hall.out)
        have T := Lib.hid (allR_stop 0 1099511627776 zs k (by omega))
        generalize zs.getD k 0 = x at *
        clear h1 h3
        have C := Lib.hid (right_any x wr)
        cases c : inR 0 1099511627776 x
        · have C2 := C.out
          rw [c] at C2
          have C3 := Lib.hid C2
          have T2 := Lib.hid (T.out c)
          clear C2 C T S c
          go_wp2_with fail
          refine C3.out.mono ?_
          rintro e w1 ⟨rfl, hb1⟩
          go_wp2_with fail
          go_ret
          exact ⟨ret_bool T2.out, hb.trans (hb1.mono hb.size)⟩
        · have C2 := C.out
          rw [c] at C2
          have C3 := Lib.hid C2
          have T2 := Lib.hid (S.out c)
          clear C2 C T S c
          go_wp2_with fail
          refine C3.out.mono ?_
          rintro e w1 ⟨rfl, hb1⟩
          go_wp2_with fail
          go_roundw
          case rel => exact ⟨k + 1, by omega, by go_num, T2, hb.trans (hb1.mono hb.size)⟩
          case measure => (simp [intOf]; try omega)
    · have T2 := Lib.hid (allR_full 0 1099511627776 zs k (by omega) hall.out)
      clear h1 h3 h4
      go_wp2_with fail
      go_ret
      exact ⟨ret_bool T2.out, hb⟩

set_option maxHeartbeats 1000000 in
theorem all_within (lo hi : Int) (p q : Addr) (a : Option Addr) (len cap : Nat) (zs : List Int) (w : World) (h : IntsAt w a len zs) (hp : w.cell? p = some (.int .i64 lo)) (hq : w.cell? q = some (.int .i64 hi)) :
    Calls Try.prog 60 #[.slice a len cap, .func (.func 66) #[] #[.pointer (some p), .pointer (some q)]] w fun e w' => e = .returned (.bool (allR lo hi zs)) ∧ w = w' := by
  obtain ⟨h1, h2, h3, h4⟩ := h
  have D := Lib.hid (fun n => within1_any lo hi n p q w hp hq)
  clear hp hq
  go_enter Try.func60, Try.ntmps60
  go_wp2_with fail
  go_loop [9] (fun i => ∃ k : Nat, k ≤ len ∧ i = .int .i64 k ∧ Hid (allR lo hi (zs.take k) = true)) (fun i => len - (intOf i).toNat)
  case atStart => exact ⟨0, Nat.zero_le _, rfl, rfl⟩
  case round =>
    obtain ⟨k, hk, rfl, hall⟩ := hrel
    by_cases hlt : k < len
    · rcases h4 with h4 | ⟨b, off, rfl, hc⟩
      · omega
      · have hcell := hc k hlt
        clear hc
        have S := Lib.hid (allR_step lo hi zs k (by omega) hall.out)
        have T := Lib.hid (allR_stop lo hi zs k (by omega))
        generalize zs.getD k 0 = x at *
        clear h1 h3
        have C := Lib.hid (D.out x)
        cases c : inR lo hi x
        · have C2 := C.out
          rw [c] at C2
          have C3 := Lib.hid C2
          have T2 := Lib.hid (T.out c)
          clear C2 C T S c
          go_wp2_with fail
          refine C3.out.mono ?_
          rintro e w1 ⟨rfl, rfl⟩
          go_wp2_with fail
          go_ret
          exact ⟨ret_bool T2.out, rfl⟩
        · have C2 := C.out
          rw [c] at C2
          have C3 := Lib.hid C2
          have T2 := Lib.hid (S.out c)
          clear C2 C T S c
          go_wp2_with fail
          refine C3.out.mono ?_
          rintro e w1 ⟨rfl, rfl⟩
          go_wp2_with fail
          go_round
          case rel => exact ⟨k + 1, by omega, by go_num, T2⟩
          case measure => (simp [intOf]; try omega)
    · have T2 := Lib.hid (allR_full lo hi zs k (by omega) hall.out)
      clear h1 h3 h4
      go_wp2_with fail
      go_ret
      exact ⟨ret_bool T2.out, rfl⟩

end Go.Proofs.Ytdimpgojamhakaa

/-
  Contracts of package safe: Add, Mul, Max, Sub, Share.
-/
namespace Go.Proofs.Ytdimpgojamhakaa
open Go.RowKit
set_option linter.unusedVariables false
set_option linter.unusedSimpArgs false

theorem quo_lt {t x : Int} (h1 : 1 ≤ t) (h : 1099511627776 / t < x) : 1099511627776 < t * x := by
  have := (Int.ediv_lt_iff_lt_mul (show 0 < t by omega)).1 h
  rw [Int.mul_comm]; exact this
theorem quo_ge {t x : Int} (h1 : 1 ≤ t) (h : ¬ 1099511627776 / t < x) : t * x ≤ 1099511627776 := by
  have := (Int.le_ediv_iff_mul_le (show 0 < t by omega)).1 (show x ≤ 1099511627776 / t by omega)
  rw [Int.mul_comm]; exact this

set_option maxHeartbeats 1000000 in
theorem safemul_any (a : Option Addr) (len cap : Nat) (zs : List Int) (w : World) (h : IntsAt w a len zs) :
    Calls Try.prog 53 #[.slice a len cap] w fun e w' => e = .returned (.tuple #[.int .i64 (mulN zs), .int .i64 (mulE zs)]) ∧ Below w.heap.size w w' := by
  have c0 := all_right a len cap zs w h
  have H := Lib.hid h
  obtain ⟨h1, h2, h3, h4⟩ := h
  cases c : allR 0 1099511627776 zs
  · rw [c] at c0
    have C := Lib.hid c0
    have E := Lib.hid (mul_bad c)
    clear c c0 h4
    go_enter Try.func53, Try.ntmps53
    go_wp2_with fail
    refine C.out.mono ?_
    rintro e w1 ⟨rfl, hb⟩
    go_wp2_with fail
    go_ret2
    exact ⟨ret_ints2 E.out.1 E.out.2, hb⟩
  · rw [c] at c0
    have C := Lib.hid c0
    have c' := Lib.hid c
    clear c0 c
    go_enter Try.func53, Try.ntmps53
    go_wp2_with fail
    refine C.out.mono ?_
    rintro e w1 ⟨rfl, hb⟩
    have D := Lib.hid (within_any 1 1099511627776 w1)
    go_wp2_with fail
    refine D.out.mono ?_
    rintro e w2 ⟨rfl, hp, hq, hb2, -⟩
    have hb3 : Below w.heap.size w w2 := hb.trans (hb2.mono hb.size)
    have d0 := all_within 1 1099511627776 _ _ a len cap zs w2 (H.out.kept hb3) hp hq
    clear hp hq hb2 D C
    cases d : allR 1 1099511627776 zs
    · rw [d] at d0
      have D := Lib.hid d0
      have E := Lib.hid (mul_nought c'.out d)
      clear d d0 h4
      go_wp2_with fail
      refine D.out.mono ?_
      rintro e w3 ⟨rfl, rfl⟩
      go_wp2_with fail
      go_ret2
      exact ⟨ret_ints2 E.out.1 E.out.2, hb3⟩
    · rw [d] at d0
      have D := Lib.hid d0
      have d' := Lib.hid d
      clear d d0
      go_wp2_with fail
      refine D.out.mono ?_
      rintro e w3 ⟨rfl, rfl⟩
      go_wp2_with fail
      go_loop [4, 16] (fun t i => ∃ k : Nat, k ≤ len ∧ i = .int .i64 k ∧ t = .int .i64 (prodI (zs.take k)) ∧ prodI (zs.take k) ≤ 1099511627776) (fun _ i => len - (intOf i).toNat)
      case atStart => exact ⟨0, Nat.zero_le _, rfl, rfl, by simp [prodI]⟩
      case round =>
        obtain ⟨k, hk, rfl, rfl, hle⟩ := hrel
        have s0 := prodI_pos (allR_take d'.out k)
        by_cases hlt : k < len
        · rcases h4 with h4 | ⟨b, off, rfl, hc⟩
          · omega
          · have hcell := cell_later hb3 (hc k hlt)
            clear hc
            have hstep := prodI_step zs k (by omega)
            have htot := prodI_take_le d'.out (k + 1)
            obtain ⟨x1, x2⟩ := allR_getD d'.out k (by omega)
            generalize zs.getD k 0 = x at *
            generalize prodI (zs.take k) = t at *
            have hs := Lib.hid hstep
            clear h1 h3
            by_cases hbig : 1099511627776 / t < x
            · have E := Lib.hid (mul_big c'.out (by have := quo_lt s0 hbig; omega))
              clear htot hstep
              go_wp2_with fail
              go_ret2
              exact ⟨ret_ints2 E.out.1 E.out.2, hb3⟩
            · have p1 := quo_ge s0 hbig
              have p2 := Int.mul_le_mul s0 x1 (by omega) (by omega)
              have p3 : 0 ≤ t * x := by omega
              clear htot hstep p2
              go_wp2_with fail
              go_round
              case rel => exact ⟨k + 1, by omega, by go_num, by rw [hs.out], by rw [hs.out]; omega⟩
              case measure => (simp [intOf]; try omega)
        · have e : prodI (zs.take k) = prodI zs := by rw [List.take_of_length_le (by omega)]
          rw [e] at hle
          have E := mul_ok c'.out hle
          rw [← e] at E
          have E' := Lib.hid E
          clear E e hle
          generalize prodI (zs.take k) = t at *
          clear h1 h3 h4
          go_wp2_with fail
          go_ret2
          exact ⟨ret_ints2 E'.out.1 E'.out.2, hb3⟩

end Go.Proofs.Ytdimpgojamhakaa

/-
  Plain mathematics of package shape: valid shapes, their sizes, lists changed at one place.
-/
namespace Go.Proofs.Ytdimpgojamhakaa
set_option linter.unusedVariables false
set_option linter.unusedSimpArgs false

/-- A valid shape. -/
def rightS (l : List Int) : Bool := decide (1 ≤ l.length) && decide (l.length ≤ 4) && allR 1 1024 l && decide (prodI l ≤ 65536)
theorem rightS_short {l : List Int} (h : l.length < 1) : rightS l = false := by simp [rightS]; omega
theorem rightS_long {l : List Int} (h : 4 < l.length) : rightS l = false := by
  have : ¬ l.length ≤ 4 := by omega
  simp [rightS, this]
theorem rightS_side {l : List Int} (h : allR 1 1024 l = false) : rightS l = false := by simp [rightS, h]
theorem rightS_big {l : List Int} (h : 65536 < prodI l) : rightS l = false := by
  have : ¬ prodI l ≤ 65536 := by omega
  simp [rightS, this]
theorem rightS_yes {l : List Int} (h1 : 1 ≤ l.length) (h2 : l.length ≤ 4) (h3 : allR 1 1024 l = true) (h4 : prodI l ≤ 65536) : rightS l = true := by simp [rightS, h1, h2, h3, h4]
theorem rightS_parts {l : List Int} (h : rightS l = true) : 1 ≤ l.length ∧ l.length ≤ 4 ∧ allR 1 1024 l = true ∧ prodI l ≤ 65536 := by
  simp [rightS] at h; exact ⟨h.1.1.1, h.1.1.2, h.1.2, h.2⟩

def sizeN (l : List Int) : Int := if rightS l = true then prodI l else 0
def sizeE (l : List Int) : Int := if rightS l = true then 0 else 20
theorem size_no {l : List Int} (h : rightS l = false) : 0 = sizeN l ∧ 20 = sizeE l := by simp [sizeN, sizeE, h]
theorem size_yes {l : List Int} (h : rightS l = true) : prodI l = sizeN l ∧ 0 = sizeE l := by simp [sizeN, sizeE, h]

theorem prodI_pow {l : List Int} (h : allR 1 1024 l = true) : prodI l ≤ 1024 ^ l.length := by
  induction l with
  | nil => simp [prodI]
  | cons x l ih =>
    unfold allR at h; rw [List.all_cons, Bool.and_eq_true] at h
    have hx := inR_bounds h.1
    have hp := ih h.2
    have h1 := prodI_pos (l := l) (hi := 1024) h.2
    rw [prodI_cons, List.length_cons, Int.pow_succ, Int.mul_comm]
    exact Int.mul_le_mul hp hx.2 (by omega) (by omega)
theorem prodI_le {l : List Int} (h : allR 1 1024 l = true) (h4 : l.length ≤ 4) : prodI l ≤ 1099511627776 := by
  have h1 := prodI_pow h
  have : (1024 : Int) ^ l.length ≤ 1024 ^ 4 := by
    match l.length, h4 with
    | 0, _ => decide
    | 1, _ => decide
    | 2, _ => decide
    | 3, _ => decide
    | 4, _ => decide
  have e : (1024 : Int) ^ 4 = 1099511627776 := by decide
  omega
theorem allR_wide {lo hi hi' : Int} {l : List Int} (hh : hi ≤ hi') (h : allR lo hi l = true) : allR lo hi' l = true := by
  unfold allR at *
  rw [List.all_eq_true] at *
  intro x hx
  obtain ⟨a, b⟩ := inR_bounds (h x hx)
  exact inR_yes a (by omega)
theorem mul_shape {l : List Int} (h : allR 1 1024 l = true) (h4 : l.length ≤ 4) : mulN l = prodI l ∧ mulE l = 0 := by
  obtain ⟨a, b⟩ := mul_ok (allR_more (lo' := 0) (by omega) (allR_wide (hi' := 1099511627776) (by omega) h)) (prodI_le h h4)
  exact ⟨a.symm, b.symm⟩

/-- The same list. -/
def sameL (a b : List Int) : Bool := decide (a = b)
theorem sameL_len {a b : List Int} (h : a.length ≠ b.length) : false = sameL a b := by
  have : a ≠ b := fun e => h (by rw [e])
  simp [sameL, this]
theorem sameL_at {a b : List Int} (k : Nat) (h : a.getD k 0 ≠ b.getD k 0) : false = sameL a b := by
  have : a ≠ b := fun e => h (by rw [e])
  simp [sameL, this]
theorem sameL_full {a b : List Int} (k : Nat) (hl : a.length = b.length) (hk : a.length ≤ k) (h : a.take k = b.take k) : true = sameL a b := by
  rw [List.take_of_length_le hk, List.take_of_length_le (by omega)] at h
  simp [sameL, h]
theorem take_step {a b : List Int} (k : Nat) (hl : a.length = b.length) (hk : k < a.length) (h : a.take k = b.take k) (h' : a.getD k 0 = b.getD k 0) : a.take (k + 1) = b.take (k + 1) := by
  rw [List.take_add_one, List.take_add_one, h]
  have e1 : a[k]? = some (a.getD k 0) := by simp [List.getD, List.getElem?_eq_getElem hk]
  have e2 : b[k]? = some (b.getD k 0) := by simp [List.getD, List.getElem?_eq_getElem (show k < b.length by omega)]
  rw [e1, e2, h']
theorem sameL_self (a : List Int) : sameL a a = true := by simp [sameL]
theorem sameL_eq {a b : List Int} (h : sameL a b = true) : a = b := by simpa [sameL] using h


/-- Indices within their sides; the number of a place. -/
def inB (z : List (Int × Int)) : Bool := z.all fun q => decide (0 ≤ q.2) && decide (q.2 < q.1)
def numP (z : List (Int × Int)) : Int := z.foldl (fun p q => p * q.1 + q.2) 0
theorem zip_getElem? (s a : List Int) (k : Nat) (h1 : k < s.length) (h2 : k < a.length) : (s.zip a)[k]? = some (s.getD k 0, a.getD k 0) := by
  rw [List.getElem?_eq_getElem (by rw [List.length_zip]; omega), List.getElem_zip]
  simp [List.getD, List.getElem?_eq_getElem h1, List.getElem?_eq_getElem h2]
theorem inB_step (s a : List Int) (k : Nat) (h1 : k < s.length) (h2 : k < a.length) (h : inB ((s.zip a).take k) = true) (l : 0 ≤ a.getD k 0) (u : a.getD k 0 < s.getD k 0) : inB ((s.zip a).take (k + 1)) = true := by
  unfold inB at *
  rw [List.take_add_one, zip_getElem? s a k h1 h2, List.all_append, h]
  simp only [Option.toList_some, List.all_cons, List.all_nil, Bool.and_true, Bool.true_and, Bool.and_eq_true, decide_eq_true_eq]
  exact ⟨l, u⟩
theorem inB_stop (s a : List Int) (k : Nat) (h1 : k < s.length) (h2 : k < a.length) (l : ¬ (0 ≤ a.getD k 0 ∧ a.getD k 0 < s.getD k 0)) : inB (s.zip a) = false := by
  unfold inB
  rw [List.all_eq_false]
  refine ⟨(s.getD k 0, a.getD k 0), List.mem_of_getElem? (zip_getElem? s a k h1 h2), ?_⟩
  simp only [Bool.and_eq_true, decide_eq_true_eq]
  exact l
theorem numP_step (s a : List Int) (k : Nat) (h1 : k < s.length) (h2 : k < a.length) : numP ((s.zip a).take (k + 1)) = numP ((s.zip a).take k) * s.getD k 0 + a.getD k 0 := by
  unfold numP
  rw [List.take_add_one, zip_getElem? s a k h1 h2, List.foldl_append]
  rfl
theorem numP_append (z y : List (Int × Int)) : numP (z ++ y) = y.foldl (fun p q => p * q.1 + q.2) (numP z) := by unfold numP; rw [List.foldl_append]
theorem numP_take (s a : List Int) (hs : s.length = a.length) (hr : allR 1 1024 s = true) : ∀ k, k ≤ s.length → inB ((s.zip a).take k) = true → 0 ≤ numP ((s.zip a).take k) ∧ numP ((s.zip a).take k) < prodI (s.take k) := by
  intro k
  induction k with
  | zero => intro _ _; simp [numP, prodI]
  | succ k ih =>
    intro hk hb
    have hb' : inB ((s.zip a).take k) = true := by
      unfold inB at *
      rw [List.all_eq_true] at *
      intro x hx
      exact hb x (by rw [List.take_add_one]; exact List.mem_append_left _ hx)
    have hbk : 0 ≤ a.getD k 0 ∧ a.getD k 0 < s.getD k 0 := by
      unfold inB at hb
      rw [List.all_eq_true] at hb
      have := hb (s.getD k 0, a.getD k 0) (by rw [List.take_add_one, zip_getElem? s a k (by omega) (by omega)]; simp)
      simpa using this
    obtain ⟨i1, i2⟩ := ih (by omega) hb'
    obtain ⟨x1, x2⟩ := allR_getD hr k (by omega)
    rw [numP_step s a k (by omega) (by omega), prodI_step s k (by omega)]
    have m1 : numP ((s.zip a).take k) * s.getD k 0 ≤ (prodI (s.take k) - 1) * s.getD k 0 := Int.mul_le_mul (by omega) (Int.le_refl _) (by omega) (by omega)
    have m2 : 0 ≤ numP ((s.zip a).take k) * s.getD k 0 := Int.mul_nonneg i1 (by omega)
    rw [Int.sub_mul] at m1
    omega

/-- What Place tells: the number and the error. -/
def atOk (s a : List Int) : Bool := decide (s.length = a.length) && inB (s.zip a)
def placeN (s a : List Int) : Int := if rightS s = true ∧ atOk s a = true then numP (s.zip a) else 0
def placeE (s a : List Int) : Int := if rightS s = true then (if atOk s a = true then 0 else 11) else 20
theorem place_wrong {s a : List Int} (h : rightS s = false) : 0 = placeN s a ∧ 20 = placeE s a := by simp [placeN, placeE, h]
theorem place_none {s a : List Int} (h : rightS s = true) (h' : atOk s a = false) : 0 = placeN s a ∧ 11 = placeE s a := by simp [placeN, placeE, h, h']
theorem place_yes {s a : List Int} (h : rightS s = true) (h' : atOk s a = true) : numP (s.zip a) = placeN s a ∧ 0 = placeE s a := by simp [placeN, placeE, h, h']
theorem atOk_len {s a : List Int} (h : ¬ s.length = a.length) : atOk s a = false := by simp [atOk, h]
theorem atOk_bad {s a : List Int} (h : inB (s.zip a) = false) : atOk s a = false := by simp [atOk, h]
theorem atOk_yes {s a : List Int} (h : s.length = a.length) (h' : inB (s.zip a) = true) : atOk s a = true := by simp [atOk, h, h']
theorem take_zip_full {s a : List Int} (k : Nat) (hk : s.length ≤ k) : (s.zip a).take k = s.zip a := List.take_of_length_le (by rw [List.length_zip]; omega)
theorem numP_lt {s a : List Int} (h : rightS s = true) (h' : atOk s a = true) : 0 ≤ numP (s.zip a) ∧ numP (s.zip a) < prodI s := by
  have hl : s.length = a.length := by simp [atOk] at h'; exact h'.1
  have hb : inB (s.zip a) = true := by simp [atOk] at h'; exact h'.2
  have := numP_take s a hl (rightS_parts h).2.2.1 s.length (Nat.le_refl _) (by rw [take_zip_full _ (Nat.le_refl _)]; exact hb)
  rwa [take_zip_full _ (Nat.le_refl _), List.take_of_length_le (Nat.le_refl _)] at this
end Go.Proofs.Ytdimpgojamhakaa

/-
  Contracts of package shape: the sides, Size, Right; and of its reference: Right, Size.
-/
namespace Go.Proofs.Ytdimpgojamhakaa
open Go.RowKit
set_option linter.unusedVariables false
set_option linter.unusedSimpArgs false

set_option maxHeartbeats 400000 in
theorem isSide_any (n : Int) (w : World) :
    Calls Try.prog 44 #[.int .i64 n] w fun e w' => e = .returned (.bool (inR 1 1024 n)) ∧ w = w' := by
  by_cases c : 1 ≤ n
  · by_cases d : n ≤ 1024
    · have E := Lib.hid (inR_yes c d).symm
      go_enter Try.func44, Try.ntmps44
      go_wp2_with fail
      go_ret
      exact ⟨ret_bool E.out, rfl⟩
    · have E := Lib.hid (inR_high (lo := 1) d).symm
      go_enter Try.func44, Try.ntmps44
      go_wp2_with fail
      go_ret
      exact ⟨ret_bool E.out, rfl⟩
  · have E := Lib.hid (inR_low (hi := 1024) c).symm
    go_enter Try.func44, Try.ntmps44
    go_wp2_with fail
    go_ret
    exact ⟨ret_bool E.out, rfl⟩

set_option maxHeartbeats 1000000 in
theorem size_any (a : Option Addr) (len cap : Nat) (zs : List Int) (w : World) (h : IntsAt w a len zs) :
    Calls Try.prog 43 #[.slice a len cap] w fun e w' => e = .returned (.tuple #[.int .i64 (sizeN zs), .int .i64 (sizeE zs)]) ∧ Below w.heap.size w w' := by
  by_cases g0 : len < 1
  · have E := Lib.hid (size_no (rightS_short (l := zs) (by have := h.1; omega)))
    clear h
    go_enter Try.func43, Try.ntmps43
    go_wp2_with fail
    go_ret2
    exact ⟨ret_ints2 E.out.1 E.out.2, Below.refl _ _⟩
  by_cases g4 : 4 < len
  · have E := Lib.hid (size_no (rightS_long (l := zs) (by have := h.1; omega)))
    clear h
    go_enter Try.func43, Try.ntmps43
    go_wp2_with fail
    go_ret2
    exact ⟨ret_ints2 E.out.1 E.out.2, Below.refl _ _⟩
  have H := Lib.hid h
  obtain ⟨h1, h2, h3, h4⟩ := h
  have hl := Lib.hid h1
  go_enter Try.func43, Try.ntmps43
  go_wp2_with fail
  go_loop [18] (fun i => ∃ k : Nat, k ≤ len ∧ i = .int .i64 k ∧ Hid (allR 1 1024 (zs.take k) = true)) (fun i => len - (intOf i).toNat)
  case atStart => exact ⟨0, Nat.zero_le _, rfl, rfl⟩
  case round =>
    obtain ⟨k, hk, rfl, hall⟩ := hrel
    by_cases hlt : k < len
    · rcases h4 with h4 | ⟨b, off, rfl, hc⟩
      · omega
      · have hcell := hc k hlt
        clear hc
        have S := Lib.hid (allR_step 1 1024 zs k (by omega) hall.out)
        have T := Lib.hid (allR_stop 1 1024 zs k (by omega))
        generalize zs.getD k 0 = x at *
        clear h1 h3
        have C := Lib.hid (isSide_any x w)
        cases c : inR 1 1024 x
        · have C2 := C.out
          rw [c] at C2
          have C3 := Lib.hid C2
          have T2 := Lib.hid (size_no (rightS_side (T.out c).symm))
          clear C2 C T S c
          go_wp2_with fail
          refine C3.out.mono ?_
          rintro e w1 ⟨rfl, rfl⟩
          go_wp2_with fail
          go_ret2
          exact ⟨ret_ints2 T2.out.1 T2.out.2, Below.refl _ _⟩
        · have C2 := C.out
          rw [c] at C2
          have C3 := Lib.hid C2
          have T2 := Lib.hid (S.out c)
          clear C2 C T S c
          go_wp2_with fail
          refine C3.out.mono ?_
          rintro e w1 ⟨rfl, rfl⟩
          go_wp2_with fail
          go_round
          case rel => exact ⟨k + 1, by omega, by go_num, T2⟩
          case measure => (simp [intOf]; try omega)
    · have c' := Lib.hid (allR_full 1 1024 zs k (by omega) hall.out).symm
      clear hall h4
      have c0 := safemul_any a len cap zs w H.out
      obtain ⟨m1, m2⟩ := mul_shape c'.out (by omega)
      rw [m1, m2] at c0
      have M := Lib.hid c0
      clear m1 m2 c0
      by_cases big : 65536 < prodI zs
      · have E := Lib.hid (size_no (rightS_big big))
        generalize prodI zs = t at *
        clear h1 h3
        go_wp2_with fail
        refine M.out.mono ?_
        rintro e w1 ⟨rfl, hb⟩
        go_wp2_with fail
        go_ret2
        exact ⟨ret_ints2 E.out.1 E.out.2, hb⟩
      · have E := Lib.hid (size_yes (rightS_yes (l := zs) (by omega) (by omega) c'.out (by omega)))
        generalize prodI zs = t at *
        clear h1 h3
        go_wp2_with fail
        refine M.out.mono ?_
        rintro e w1 ⟨rfl, hb⟩
        go_wp2_with fail
        go_ret2
        exact ⟨ret_ints2 E.out.1 E.out.2, hb⟩

theorem sizeE_yes {l : List Int} (h : rightS l = true) : sizeE l = 0 := by simp [sizeE, h]
theorem sizeE_no {l : List Int} (h : rightS l = false) : sizeE l = 20 := by simp [sizeE, h]
theorem sizeN_yes {l : List Int} (h : rightS l = true) : sizeN l = prodI l := by simp [sizeN, h]
theorem sizeN_no {l : List Int} (h : rightS l = false) : sizeN l = 0 := by simp [sizeN, h]

set_option maxHeartbeats 400000 in
theorem rightM_any (a : Option Addr) (len cap : Nat) (zs : List Int) (w : World) (h : IntsAt w a len zs) :
    Calls Try.prog 25 #[.slice a len cap] w fun e w' => e = .returned (.bool (rightS zs)) ∧ Below w.heap.size w w' := by
  have c0 := size_any a len cap zs w h
  cases c : rightS zs
  · rw [sizeE_no c, sizeN_no c] at c0
    have C := Lib.hid c0
    clear c0 c h
    go_enter Try.func25, Try.ntmps25
    go_wp2_with fail
    refine C.out.mono ?_
    rintro e w1 ⟨rfl, hb⟩
    go_wp2_with fail
    go_ret
    exact ⟨rfl, hb⟩
  · rw [sizeE_yes c] at c0
    have C := Lib.hid c0
    generalize sizeN zs = t at *
    clear c0 c h
    go_enter Try.func25, Try.ntmps25
    go_wp2_with fail
    refine C.out.mono ?_
    rintro e w1 ⟨rfl, hb⟩
    go_wp2_with fail
    go_ret
    exact ⟨rfl, hb⟩

theorem pow_small (k : Nat) (h : k ≤ 3) : (1024 : Int) ^ k ≤ 1073741824 := by
  match k, h with
  | 0, _ => decide
  | 1, _ => decide
  | 2, _ => decide
  | 3, _ => decide

set_option maxHeartbeats 1000000 in
theorem refshape_any (a : Option Addr) (len cap : Nat) (zs : List Int) (w : World) (h : IntsAt w a len zs) :
    Calls Try.prog 28 #[.slice a len cap] w fun e w' => e = .returned (.bool (rightS zs)) ∧ w = w' := by
  by_cases g0 : len < 1
  · have E := Lib.hid (rightS_short (l := zs) (by have := h.1; omega)).symm
    clear h
    go_enter Try.func28, Try.ntmps28
    go_wp2_with fail
    go_ret
    exact ⟨ret_bool E.out, rfl⟩
  by_cases g4 : 4 < len
  · have E := Lib.hid (rightS_long (l := zs) (by have := h.1; omega)).symm
    clear h
    go_enter Try.func28, Try.ntmps28
    go_wp2_with fail
    go_ret
    exact ⟨ret_bool E.out, rfl⟩
  obtain ⟨h1, h2, h3, h4⟩ := h
  have hl := Lib.hid h1
  go_enter Try.func28, Try.ntmps28
  go_wp2_with fail
  go_loop [3, 4] (fun n i => ∃ k : Nat, k ≤ len ∧ i = .int .i64 k ∧ n = .int .i64 (prodI (zs.take k)) ∧ Hid (allR 1 1024 (zs.take k) = true)) (fun _ i => len - (intOf i).toNat)
  case atStart => exact ⟨0, Nat.zero_le _, rfl, rfl, rfl⟩
  case round =>
    obtain ⟨k, hk, rfl, rfl, hall⟩ := hrel
    by_cases hlt : k < len
    · rcases h4 with h4 | ⟨b, off, rfl, hc⟩
      · omega
      · have hcell := hc k hlt
        clear hc
        have S := Lib.hid (allR_step 1 1024 zs k (by omega) hall.out)
        have T := Lib.hid (allR_stop 1 1024 zs k (by omega))
        have P1 := prodI_pos hall.out
        have P2 := prodI_pow hall.out
        rw [List.length_take_of_le (by omega)] at P2
        have P3 := pow_small k (by omega)
        have hs := Lib.hid (prodI_step zs k (by omega))
        have B := h3.getD k
        generalize zs.getD k 0 = x at *
        generalize prodI (zs.take k) = t at *
        have t1 : t ≤ 1073741824 := by omega
        clear P2 P3 hall h1 h3
        by_cases c1 : x < 1
        · have T2 := Lib.hid (rightS_side (T.out (inR_low (by omega))).symm).symm
          clear T S
          go_wp2_with fail
          go_ret
          exact ⟨ret_bool T2.out, rfl⟩
        by_cases c2 : 1024 < x
        · have T2 := Lib.hid (rightS_side (T.out (inR_high (by omega))).symm).symm
          clear T S
          go_wp2_with fail
          go_ret
          exact ⟨ret_bool T2.out, rfl⟩
        · have S2 := Lib.hid (S.out (inR_yes (by omega) (by omega)))
          have q1 := Int.mul_le_mul t1 (show x ≤ 1024 by omega) (by omega) (by omega)
          have q2 := Int.mul_le_mul P1 (show 1 ≤ x by omega) (by omega) (by omega)
          have q3 : t * x ≤ 1099511627776 := by omega
          have q4 : 0 ≤ t * x := by omega
          clear T S q1 q2
          go_wp2_with fail
          go_round
          case rel => exact ⟨k + 1, by omega, by go_num, by rw [hs.out], S2⟩
          case measure => (simp [intOf]; try omega)
    · have c' := Lib.hid (allR_full 1 1024 zs k (by omega) hall.out).symm
      have e : zs.take k = zs := List.take_of_length_le (by omega)
      rw [e]
      clear hall h4 e
      by_cases big : 65536 < prodI zs
      · have E := Lib.hid (rightS_big big).symm
        generalize prodI zs = t at *
        clear h1 h3
        go_wp2_with fail
        go_ret
        exact ⟨ret_bool (by rw [decide_eq_false (by omega)]; exact E.out), rfl⟩
      · have E := Lib.hid (rightS_yes (l := zs) (by omega) (by omega) c'.out (by omega)).symm
        generalize prodI zs = t at *
        clear h1 h3
        go_wp2_with fail
        go_ret
        exact ⟨ret_bool E.out, rfl⟩

set_option maxHeartbeats 1000000 in
theorem refsize_any (a : Option Addr) (len cap : Nat) (zs : List Int) (w : World) (h : IntsAt w a len zs) (hr : rightS zs = true) :
    Calls Try.prog 39 #[.slice a len cap] w fun e w' => e = .returned (.int .i64 (prodI zs)) ∧ w = w' := by
  obtain ⟨r1, r2, r3', r4⟩ := rightS_parts hr
  have r3 := Lib.hid r3'
  clear hr r3'
  obtain ⟨h1, h2, h3, h4⟩ := h
  have hl := Lib.hid h1
  go_enter Try.func39, Try.ntmps39
  go_wp2_with fail
  go_loop [3, 4] (fun n i => ∃ k : Nat, k ≤ len ∧ i = .int .i64 k ∧ n = .int .i64 (prodI (zs.take k))) (fun _ i => len - (intOf i).toNat)
  case atStart => exact ⟨0, Nat.zero_le _, rfl, rfl⟩
  case round =>
    obtain ⟨k, hk, rfl, rfl⟩ := hrel
    by_cases hlt : k < len
    · rcases h4 with h4 | ⟨b, off, rfl, hc⟩
      · omega
      · have hcell := hc k hlt
        clear hc
        have P1 := prodI_pos (allR_take r3.out k)
        have P2 := prodI_take_le r3.out k
        have P3 := prodI_take_le r3.out (k + 1)
        have P4 := prodI_pos (allR_take r3.out (k + 1))
        have hs := prodI_step zs k (by omega)
        rw [hs] at P3 P4
        replace hs := Lib.hid hs
        obtain ⟨x1, x2⟩ := allR_getD r3.out k (by omega)
        generalize zs.getD k 0 = x at *
        generalize prodI (zs.take k) = t at *
        generalize prodI zs = T at *
        have q3 : t * x ≤ 65536 := by omega
        have q4 : 0 ≤ t * x := by omega
        clear P3 P4 h1 h3
        go_wp2_with fail
        go_round
        case rel => exact ⟨k + 1, by omega, by go_num, by rw [hs.out]⟩
        case measure => (simp [intOf]; try omega)
    · have e : zs.take k = zs := List.take_of_length_le (by omega)
      rw [e]
      obtain ⟨t, ht⟩ : ∃ t, prodI zs = t := ⟨_, rfl⟩
      rw [ht]
      replace ht := Lib.hid ht
      clear h1 h3 h4 e
      go_wp2_with fail
      go_ret
      exact ⟨ret_int ht.out.symm, rfl⟩
end Go.Proofs.Ytdimpgojamhakaa

/-
  Contracts of package shape and its reference: copies, equal lists, one side changed.
-/
namespace Go.Proofs.Ytdimpgojamhakaa
open Go.RowKit
set_option linter.unusedVariables false
set_option linter.unusedSimpArgs false

theorem cells_news {w : World} {ad : Addr} {len : Nat} {zs : List Int} (h : IntsAt w (some ad) len zs) (o : Obj) : ∀ j u, (zs.map (Value.int .i64))[j]? = some u → (w.alloc o).cell? (ad.add j) = some u := by
  obtain ⟨h1, h2, h3, h4⟩ := h
  intro j u hj
  have hjl := (List.getElem?_eq_some_iff.1 hj).1
  rw [List.length_map] at hjl
  rcases h4 with h4 | ⟨b, off, ha, hc⟩
  · omega
  · cases ha
    rw [Addr.add_lit]
    refine Lib.cell?_alloc_some _ ?_
    rw [hc j (by omega)]
    rw [← hj]
    simp [List.getD, List.getElem?_eq_getElem hjl]

set_option maxHeartbeats 2000000 in
theorem clone_any (a : Option Addr) (len cap : Nat) (zs : List Int) (w : World) (h : IntsAt w a len zs) (hs : len ≤ 1000) :
    Calls Try.prog 45 #[.slice a len cap] w (NewInts w len zs) := by
  have q : ∀ (w : World) (a : Option Addr) (n c n' c' : Nat), (binOp .eql 23 (.slice a n c) (.slice none n' c')).run Try.prog w = .ok (.bool a.isNone) w := fun w a n c n' c' => Lib.run_eql_slice_nil w _ _ a n c n' c' Try.underlying23
  obtain ⟨i0, hi, hz0, hz1, hz2⟩ := info_parts intInfo
  cases a with
  | none =>
    have e0 : len = 0 := by
      rcases h.2.2.2 with h4 | ⟨b, off, ha, _⟩
      · exact h4
      · cases ha
    subst e0
    have e1 : zs = [] := List.length_eq_zero_iff.1 h.1
    subst e1
    clear h
    go_enter Try.func45, Try.ntmps45
    go_wp2_with fail
    go_ret
    exact ⟨none, 0, rfl, World.ownsRow_nil _ _ _ _, Below.refl _ _⟩
  | some ad =>
    have C := cells_news h (.cells #[] 3)
    have hl : zs.length = len := h.1
    clear h
    have A : Hid (∀ j u, (zs.map (Value.int .i64))[j]? = some u → (w.alloc (.cells #[] 3)).cell? (ad.add j) = some u) := C
    clear C
    have hl' := Lib.hid hl
    clear hl
    go_enter Try.func45, Try.ntmps45
    go_wp2_with (at_builtin; refine wpList_append_own _ rfl _ _ 23 rfl w.heap.size 3 i0 (.int .i64 0) 1 8 Try.underlying23 hi hz0 hz1 hz2 rfl (by decide) _ _ _ rfl (World.ownsRow_made w #[] 0 (Nat.le_refl _) (Nat.zero_le _) rfl) ad len cap (zs.map (Value.int .i64)) rfl ?c1 ?c2 ?c3 ?c4 ?c5 ?c6 ?_)
    case c1 => rw [List.length_map, hl'.out, Nat.mul_one]
    case c2 => exact A.out
    case c3 => intro u hu; obtain ⟨x, _, rfl⟩ := List.mem_map.1 hu; rfl
    case c4 => unfold maxLen; omega
    case c5 => omega
    case c6 => simp
    intro v' w1 hown hgrow hnil
    have hb := ((Below.refl w.heap.size w).alloc (Nat.le_refl _) (.cells #[] 3)).grown hgrow (by simp) (by intro k hk; simp [Value.ownBlock] at hk; omega)
    have P : NewInts w len zs (.returned v') w1 := by
      rcases Joins.ownsRow_forms hown with ⟨rfl, e0⟩ | ⟨g, c, rfl⟩
      · subst e0; exact ⟨_, _, rfl, hown, hb⟩
      · exact ⟨_, _, rfl, hown, hb⟩
    replace P := Lib.hid P
    clear hown hgrow hnil hb
    go_wp2_with fail
    go_ret
    exact P.out

set_option maxHeartbeats 400000 in
theorem copy_any (a : Option Addr) (len cap : Nat) (zs : List Int) (w : World) (h : IntsAt w a len zs) (hs : len ≤ 1000) :
    Calls Try.prog 27 #[.slice a len cap] w (NewInts w len zs) := by
  have C := Lib.hid (clone_any a len cap zs w h hs)
  clear h
  go_enter Try.func27, Try.ntmps27
  go_wp2_with fail
  refine C.out.mono ?_
  rintro e w1 ⟨A, c, rfl, ho, hb⟩
  have P : NewInts w len zs (.returned (.slice A len c)) w1 := ⟨A, c, rfl, ho, hb⟩
  replace P := Lib.hid P
  clear ho hb
  go_wp2_with fail
  go_ret
  exact P.out

set_option maxHeartbeats 1000000 in
theorem sliceEqual_any (a1 : Option Addr) (l1 c1 : Nat) (xs : List Int) (a2 : Option Addr) (l2 c2 : Nat) (ys : List Int) (w : World) (h : IntsAt w a1 l1 xs) (h' : IntsAt w a2 l2 ys) :
    Calls Try.prog 50 #[.slice a1 l1 c1, .slice a2 l2 c2] w fun e w' => e = .returned (.bool (sameL xs ys)) ∧ ∃ n, w' = w.drewN n := by
  obtain ⟨g1, g2, g3, g4⟩ := h
  obtain ⟨k1, k2, k3, k4⟩ := h'
  by_cases el : l1 = l2
  · obtain rfl := el
    have G := Lib.hid g1
    have K := Lib.hid k1
    clear g1 k1 g3 k3
    go_enter Try.func50, Try.ntmps50
    go_wp2_with fail
    go_loopw [13] (fun i wr => ∃ k n : Nat, k ≤ l1 ∧ i = .int .i64 k ∧ wr = w.drewN n ∧ Hid (xs.take k = ys.take k)) (fun i _ => l1 - (intOf i).toNat)
    case atStart => exact ⟨0, 0, Nat.zero_le _, rfl, rfl, rfl⟩
    case round =>
      obtain ⟨k, n, hk, rfl, rfl, hall⟩ := hrel
      by_cases hlt : k < l1
      · rcases g4 with g4 | ⟨b, off, rfl, hc⟩
        · omega
        rcases k4 with k4 | ⟨b', off', rfl, hc'⟩
        · omega
        have e1 := hc k hlt
        have e2 := hc' k hlt
        clear hc hc'
        have S := Lib.hid (take_step k (by rw [G.out, K.out]) (by rw [G.out]; exact hlt) hall.out)
        have T := Lib.hid (sameL_at (a := xs) (b := ys) k)
        generalize xs.getD k 0 = x at *
        generalize ys.getD k 0 = y at *
        by_cases hxy : x = y
        · subst hxy
          have S2 := Lib.hid (S.out rfl)
          clear S T hall
          go_wp2_with fail
          go_region
          go_wp2_with fail
          go_roundw
          case rel => exact ⟨k + 1, _, by omega, by go_num, rfl, S2⟩
          case measure => (simp [intOf]; try omega)
        · have T2 := Lib.hid (T.out hxy)
          clear S T hall
          go_wp2_with fail
          go_region
          go_wp2_with fail
          go_ret
          exact ⟨ret_bool T2.out, _, rfl⟩
      · have E := Lib.hid (sameL_full k (by rw [G.out, K.out]) (by rw [G.out]; omega) hall.out)
        clear g4 k4 hall
        go_wp2_with fail
        go_ret
        exact ⟨ret_bool E.out, _, rfl⟩
  · have E := Lib.hid (sameL_len (a := xs) (b := ys) (by omega))
    clear g4 k4 g1 k1 g3 k3
    go_enter Try.func50, Try.ntmps50
    go_wp2_with fail
    go_ret
    exact ⟨ret_bool E.out, 0, rfl⟩
end Go.Proofs.Ytdimpgojamhakaa

/-
  Contracts of package shape: with, hasDimension, Equal, Window; of its reference: Same.
-/
namespace Go.Proofs.Ytdimpgojamhakaa
open Go.RowKit
set_option linter.unusedVariables false
set_option linter.unusedSimpArgs false

set_option maxHeartbeats 400000 in
theorem equal_any (a1 : Option Addr) (l1 c1 : Nat) (xs : List Int) (a2 : Option Addr) (l2 c2 : Nat) (ys : List Int) (w : World) (h : IntsAt w a1 l1 xs) (h' : IntsAt w a2 l2 ys) :
    Calls Try.prog 36 #[.slice a1 l1 c1, .slice a2 l2 c2] w fun e w' => e = .returned (.bool (sameL xs ys)) ∧ ∃ n, w' = w.drewN n := by
  have C := Lib.hid (sliceEqual_any a1 l1 c1 xs a2 l2 c2 ys w h h')
  obtain ⟨b, hb⟩ : ∃ b, sameL xs ys = b := ⟨_, rfl⟩
  rw [hb] at C ⊢
  clear h h' hb
  go_enter Try.func36, Try.ntmps36
  go_wp2_with fail
  refine C.out.mono ?_
  rintro e w1 ⟨rfl, n, rfl⟩
  go_wp2_with fail
  go_ret
  exact ⟨rfl, n, rfl⟩

set_option maxHeartbeats 1000000 in
theorem same_any (a1 : Option Addr) (l1 c1 : Nat) (xs : List Int) (a2 : Option Addr) (l2 c2 : Nat) (ys : List Int) (w : World) (h : IntsAt w a1 l1 xs) (h' : IntsAt w a2 l2 ys) :
    Calls Try.prog 12 #[.slice a1 l1 c1, .slice a2 l2 c2] w fun e w' => e = .returned (.bool (sameL xs ys)) ∧ ∃ n, w' = w.drewN n := by
  obtain ⟨g1, g2, g3, g4⟩ := h
  obtain ⟨k1, k2, k3, k4⟩ := h'
  by_cases el : l1 = l2
  · obtain rfl := el
    have G := Lib.hid g1
    have K := Lib.hid k1
    clear g1 k1 g3 k3
    go_enter Try.func12, Try.ntmps12
    go_wp2_with fail
    go_loopw [5] (fun i wr => ∃ k n : Nat, k ≤ l1 ∧ i = .int .i64 k ∧ wr = w.drewN n ∧ Hid (xs.take k = ys.take k)) (fun i _ => l1 - (intOf i).toNat)
    case atStart => exact ⟨0, 0, Nat.zero_le _, rfl, rfl, rfl⟩
    case round =>
      obtain ⟨k, n, hk, rfl, rfl, hall⟩ := hrel
      by_cases hlt : k < l1
      · rcases g4 with g4 | ⟨b, off, rfl, hc⟩
        · omega
        rcases k4 with k4 | ⟨b', off', rfl, hc'⟩
        · omega
        have e1 := hc k hlt
        have e2 := hc' k hlt
        clear hc hc'
        have S := Lib.hid (take_step k (by rw [G.out, K.out]) (by rw [G.out]; exact hlt) hall.out)
        have T := Lib.hid (sameL_at (a := xs) (b := ys) k)
        generalize xs.getD k 0 = x at *
        generalize ys.getD k 0 = y at *
        by_cases hxy : x = y
        · subst hxy
          have S2 := Lib.hid (S.out rfl)
          clear S T hall
          go_wp2_with fail
          go_region
          go_wp2_with fail
          go_roundw
          case rel => exact ⟨k + 1, _, by omega, by go_num, rfl, S2⟩
          case measure => (simp [intOf]; try omega)
        · have T2 := Lib.hid (T.out hxy)
          clear S T hall
          go_wp2_with fail
          go_region
          go_wp2_with fail
          go_ret
          exact ⟨ret_bool T2.out, _, rfl⟩
      · have E := Lib.hid (sameL_full k (by rw [G.out, K.out]) (by rw [G.out]; omega) hall.out)
        clear g4 k4 hall
        go_wp2_with fail
        go_ret
        exact ⟨ret_bool E.out, _, rfl⟩
  · have E := Lib.hid (sameL_len (a := xs) (b := ys) (by omega))
    clear g4 k4 g1 k1 g3 k3
    go_enter Try.func12, Try.ntmps12
    go_wp2_with fail
    go_ret
    exact ⟨ret_bool E.out, 0, rfl⟩

/-- There is such a dimension. -/
def hasD (len : Nat) (side : Int) : Bool := decide (0 ≤ side) && decide (side < len)
theorem hasD_low {len : Nat} {side : Int} (h : ¬ 0 ≤ side) : false = hasD len side := by simp [hasD]; omega
theorem hasD_high {len : Nat} {side : Int} (h : ¬ side < len) : false = hasD len side := by simp [hasD]; omega
theorem hasD_yes {len : Nat} {side : Int} (h : 0 ≤ side) (h' : side < len) : true = hasD len side := by simp [hasD, h, h']
theorem hasD_nat {len : Nat} {side : Int} (h : hasD len side = true) : ∃ k : Nat, k < len ∧ side = k := by
  simp [hasD] at h; exact ⟨side.toNat, by omega, by omega⟩

def winN (side width step : Int) : Int := if inR 1 1024 side = true ∧ inR 1 1024 width = true ∧ inR 1 1024 step = true ∧ width ≤ side then 1 + (side - width) / step else 0
def winE (side width step : Int) : Int := if inR 1 1024 side = true ∧ inR 1 1024 width = true ∧ inR 1 1024 step = true ∧ width ≤ side then 0 else 11
theorem win_no {side width step : Int} (h : ¬ (inR 1 1024 side = true ∧ inR 1 1024 width = true ∧ inR 1 1024 step = true ∧ width ≤ side)) : 0 = winN side width step ∧ 11 = winE side width step := by
  unfold winN winE; rw [if_neg h, if_neg h]; exact ⟨rfl, rfl⟩
theorem win_yes {side width step : Int} (h : inR 1 1024 side = true ∧ inR 1 1024 width = true ∧ inR 1 1024 step = true ∧ width ≤ side) : 1 + (side - width) / step = winN side width step ∧ 0 = winE side width step := by
  unfold winN winE; rw [if_pos h, if_pos h]; exact ⟨rfl, rfl⟩

set_option maxHeartbeats 1000000 in
theorem window_any (side width step : Int) (w : World) :
    Calls Try.prog 26 #[.int .i64 side, .int .i64 width, .int .i64 step] w fun e w' => e = .returned (.tuple #[.int .i64 (winN side width step), .int .i64 (winE side width step)]) ∧ w = w' := by
  have C1 := isSide_any side
  have C2 := isSide_any width
  have C3 := isSide_any step
  cases h1 : inR 1 1024 side
  · rw [h1] at C1
    have D1 := Lib.hid C1
    have E := Lib.hid (win_no (side := side) (width := width) (step := step) (by simp [h1]))
    clear C1 C2 C3 h1
    go_enter Try.func26, Try.ntmps26
    go_wp2_with fail
    refine (D1.out _).mono ?_
    rintro e w1 ⟨rfl, rfl⟩
    go_wp2_with fail
    go_ret2
    exact ⟨ret_ints2 E.out.1 E.out.2, rfl⟩
  cases h2 : inR 1 1024 width
  · rw [h1] at C1
    rw [h2] at C2
    have D1 := Lib.hid C1
    have D2 := Lib.hid C2
    have E := Lib.hid (win_no (side := side) (width := width) (step := step) (by simp [h2]))
    clear C1 C2 C3 h1 h2
    go_enter Try.func26, Try.ntmps26
    go_wp2_with fail
    refine (D1.out _).mono ?_
    rintro e w1 ⟨rfl, rfl⟩
    go_wp2_with fail
    refine (D2.out _).mono ?_
    rintro e w1 ⟨rfl, rfl⟩
    go_wp2_with fail
    go_ret2
    exact ⟨ret_ints2 E.out.1 E.out.2, rfl⟩
  cases h3 : inR 1 1024 step
  · rw [h1] at C1
    rw [h2] at C2
    rw [h3] at C3
    have D1 := Lib.hid C1
    have D2 := Lib.hid C2
    have D3 := Lib.hid C3
    have E := Lib.hid (win_no (side := side) (width := width) (step := step) (by simp [h3]))
    clear C1 C2 C3 h1 h2 h3
    go_enter Try.func26, Try.ntmps26
    go_wp2_with fail
    refine (D1.out _).mono ?_
    rintro e w1 ⟨rfl, rfl⟩
    go_wp2_with fail
    refine (D2.out _).mono ?_
    rintro e w1 ⟨rfl, rfl⟩
    go_wp2_with fail
    refine (D3.out _).mono ?_
    rintro e w1 ⟨rfl, rfl⟩
    go_wp2_with fail
    go_ret2
    exact ⟨ret_ints2 E.out.1 E.out.2, rfl⟩
  obtain ⟨p1, p2⟩ := inR_bounds h1
  obtain ⟨p3, p4⟩ := inR_bounds h2
  obtain ⟨p5, p6⟩ := inR_bounds h3
  rw [h1] at C1
  rw [h2] at C2
  rw [h3] at C3
  have D1 := Lib.hid C1
  have D2 := Lib.hid C2
  have D3 := Lib.hid C3
  by_cases h4 : side < width
  · have E := Lib.hid (win_no (side := side) (width := width) (step := step) (by omega))
    clear C1 C2 C3 h1 h2 h3
    go_enter Try.func26, Try.ntmps26
    go_wp2_with fail
    refine (D1.out _).mono ?_
    rintro e w1 ⟨rfl, rfl⟩
    go_wp2_with fail
    refine (D2.out _).mono ?_
    rintro e w1 ⟨rfl, rfl⟩
    go_wp2_with fail
    refine (D3.out _).mono ?_
    rintro e w1 ⟨rfl, rfl⟩
    go_wp2_with fail
    go_ret2
    exact ⟨ret_ints2 E.out.1 E.out.2, rfl⟩
  · have E := Lib.hid (win_yes (side := side) (width := width) (step := step) ⟨h1, h2, h3, by omega⟩)
    have q1 : 0 ≤ (side - width) / step := Int.ediv_nonneg (by omega) (by omega)
    have q2 : (side - width) / step ≤ side - width := Int.ediv_le_self _ (by omega)
    clear C1 C2 C3 h1 h2 h3
    go_enter Try.func26, Try.ntmps26
    go_wp2_with fail
    refine (D1.out _).mono ?_
    rintro e w1 ⟨rfl, rfl⟩
    go_wp2_with fail
    refine (D2.out _).mono ?_
    rintro e w1 ⟨rfl, rfl⟩
    go_wp2_with fail
    refine (D3.out _).mono ?_
    rintro e w1 ⟨rfl, rfl⟩
    go_wp2_with fail
    go_ret2
    exact ⟨ret_ints2 E.out.1 E.out.2, rfl⟩
end Go.Proofs.Ytdimpgojamhakaa

/-
  Contracts of package shape: Join, Cut.
-/
namespace Go.Proofs.Ytdimpgojamhakaa
open Go.RowKit
set_option linter.unusedVariables false
set_option linter.unusedSimpArgs false

/-- No shape and this error; all that was there before is as it was. -/
def NilE (w : World) (x : Int) (e : Ending) (w' : World) : Prop := e = .returned (.tuple #[.slice none 0 0, .int .i64 x]) ∧ Below w.heap.size w w'
/-- A new slice of these integers and no error. -/
def NewE (w : World) (n : Nat) (zs : List Int) (e : Ending) (w' : World) : Prop :=
  ∃ A cap, e = .returned (.tuple #[.slice A n cap, .int .i64 0]) ∧ w'.ownsRow w.heap.size 3 1 (.slice A n cap) n (zs.map (Value.int .i64)) ∧ Below w.heap.size w w'

theorem row_kept {B : Nat} {e : TypeId} {k : Nat} {v : Value} {n : Nat} {xs : List Value} {w w' : World} (h : w.ownsRow B e k v n xs) (hb : Below w.heap.size w w') : w'.ownsRow B e k v n xs := by
  refine ⟨h.1, ?_⟩
  rcases h.2 with h2 | ⟨g, cap, cur, hv, hbg, hg, r1, r2, r3, r4⟩
  · exact .inl h2
  · exact .inr ⟨g, cap, cur, hv, hbg, by rw [hb.block g (by apply Decidable.byContradiction; intro hn; rw [Array.getElem?_eq_none (by omega)] at hg; cases hg)]; exact hg, r1, r2, r3, r4⟩

end Go.Proofs.Ytdimpgojamhakaa
