/-
  Layer 5 in mathematics: the output cell of a kind, the gradients of its inputs, the number of its inputs.
-/
import Derived.Test.YtilocmdanjekhaaFixLaws
namespace Go.Proofs.Ytilocmdanjekhaa
set_option linter.unusedVariables false
set_option linter.unusedSimpArgs false

/-- A quarter of x, and a half. -/
def lineF (x : Int) : Int := sat (mulF x 1073741824 + 2147483648)
theorem lineF_bounds (x : Int) : -9223372036854775808 ≤ lineF x ∧ lineF x ≤ 9223372036854775807 := sat_bounds _

/-- The output cell. -/
def pcell (kind k x y : Int) : Int :=
  if kind = 1 then (if 0 < x then x else 0)
  else if kind = 2 then (if 0 < x then x else mulF x k)
  else if kind = 3 then clampF x (-4294967296) 4294967296
  else if kind = 4 then clampF (lineF x) 0 4294967296
  else if kind = 5 then mulF x k
  else if kind = 6 then sat (x + y)
  else if kind = 7 then mulF x y
  else 0
theorem pcell_1p {k x y : Int} (h : 0 < x) : pcell 1 k x y = x := by unfold pcell; rw [if_pos rfl, if_pos h]
theorem pcell_1n {k x y : Int} (h : ¬ 0 < x) : pcell 1 k x y = 0 := by unfold pcell; rw [if_pos rfl, if_neg h]
theorem pcell_2p {k x y : Int} (h : 0 < x) : pcell 2 k x y = x := by unfold pcell; rw [if_neg (by decide), if_pos rfl, if_pos h]
theorem pcell_2n {k x y : Int} (h : ¬ 0 < x) : pcell 2 k x y = mulF x k := by unfold pcell; rw [if_neg (by decide), if_pos rfl, if_neg h]
theorem pcell_3 {k x y : Int} : pcell 3 k x y = clampF x (-4294967296) 4294967296 := by unfold pcell; rw [if_neg (by decide), if_neg (by decide), if_pos rfl]
theorem pcell_4 {k x y : Int} : pcell 4 k x y = clampF (lineF x) 0 4294967296 := by unfold pcell; rw [if_neg (by decide), if_neg (by decide), if_neg (by decide), if_pos rfl]
theorem pcell_5 {k x y : Int} : pcell 5 k x y = mulF x k := by unfold pcell; rw [if_neg (by decide), if_neg (by decide), if_neg (by decide), if_neg (by decide), if_pos rfl]
theorem pcell_6 {k x y : Int} : pcell 6 k x y = sat (x + y) := by unfold pcell; rw [if_neg (by decide), if_neg (by decide), if_neg (by decide), if_neg (by decide), if_neg (by decide), if_pos rfl]
theorem pcell_7 {k x y : Int} : pcell 7 k x y = mulF x y := by unfold pcell; rw [if_neg (by decide), if_neg (by decide), if_neg (by decide), if_neg (by decide), if_neg (by decide), if_neg (by decide), if_pos rfl]
theorem pcell_no {kind k x y : Int} (h1 : kind ≠ 1) (h2 : kind ≠ 2) (h3 : kind ≠ 3) (h4 : kind ≠ 4) (h5 : kind ≠ 5) (h6 : kind ≠ 6) (h7 : kind ≠ 7) : pcell kind k x y = 0 := by
  unfold pcell; rw [if_neg h1, if_neg h2, if_neg h3, if_neg h4, if_neg h5, if_neg h6, if_neg h7]

theorem clampF_bounds {x lo hi : Int} (h : lo ≤ hi) : lo ≤ clampF x lo hi ∧ clampF x lo hi ≤ hi := by
  unfold clampF
  split
  · omega
  · split <;> omega
theorem clampF_mono {x y lo hi : Int} (h : x ≤ y) (hl : lo ≤ hi) : clampF x lo hi ≤ clampF y lo hi := by
  unfold clampF
  repeat' split
  all_goals omega
theorem pcell_bounds {kind k x y : Int} (hx1 : -9223372036854775808 ≤ x) (hx2 : x ≤ 9223372036854775807) : -9223372036854775808 ≤ pcell kind k x y ∧ pcell kind k x y ≤ 9223372036854775807 := by
  have m1 := mulF_bounds x k
  have m2 := mulF_bounds x y
  have m3 := sat_bounds (x + y)
  have m4 := clampF_bounds (x := x) (lo := -4294967296) (hi := 4294967296) (by omega)
  have m5 := clampF_bounds (x := lineF x) (lo := 0) (hi := 4294967296) (by omega)
  unfold pcell
  repeat' split
  all_goals omega

/-- What goes back to x. -/
def pslx (kind k x y g : Int) : Int :=
  if kind = 1 then (if 0 < x then g else 0)
  else if kind = 2 then (if 0 < x then g else mulF g k)
  else if kind = 3 then (if -4294967296 < x ∧ x < 4294967296 then g else 0)
  else if kind = 4 then (if 0 < lineF x ∧ lineF x < 4294967296 then mulF g 1073741824 else 0)
  else if kind = 5 then mulF g k
  else if kind = 6 then g
  else if kind = 7 then mulF g y
  else 0
/-- What goes back to y. -/
def psly (kind x g : Int) : Int := if kind = 6 then g else if kind = 7 then mulF g x else 0
theorem pslx_1p {k x y g : Int} (h : 0 < x) : pslx 1 k x y g = g := by unfold pslx; rw [if_pos rfl, if_pos h]
theorem pslx_1n {k x y g : Int} (h : ¬ 0 < x) : pslx 1 k x y g = 0 := by unfold pslx; rw [if_pos rfl, if_neg h]
theorem pslx_2p {k x y g : Int} (h : 0 < x) : pslx 2 k x y g = g := by unfold pslx; rw [if_neg (by decide), if_pos rfl, if_pos h]
theorem pslx_2n {k x y g : Int} (h : ¬ 0 < x) : pslx 2 k x y g = mulF g k := by unfold pslx; rw [if_neg (by decide), if_pos rfl, if_neg h]
theorem pslx_3p {k x y g : Int} (h : -4294967296 < x) (h' : x < 4294967296) : pslx 3 k x y g = g := by unfold pslx; rw [if_neg (by decide), if_neg (by decide), if_pos rfl, if_pos ⟨h, h'⟩]
theorem pslx_3n {k x y g : Int} (h : ¬ (-4294967296 < x ∧ x < 4294967296)) : pslx 3 k x y g = 0 := by unfold pslx; rw [if_neg (by decide), if_neg (by decide), if_pos rfl, if_neg h]
theorem pslx_4p {k x y g : Int} (h : 0 < lineF x) (h' : lineF x < 4294967296) : pslx 4 k x y g = mulF g 1073741824 := by unfold pslx; rw [if_neg (by decide), if_neg (by decide), if_neg (by decide), if_pos rfl, if_pos ⟨h, h'⟩]
theorem pslx_4n {k x y g : Int} (h : ¬ (0 < lineF x ∧ lineF x < 4294967296)) : pslx 4 k x y g = 0 := by unfold pslx; rw [if_neg (by decide), if_neg (by decide), if_neg (by decide), if_pos rfl, if_neg h]
theorem pslx_no {kind k x y g : Int} (h1 : kind ≠ 1) (h2 : kind ≠ 2) (h3 : kind ≠ 3) (h4 : kind ≠ 4) (h5 : kind ≠ 5) (h6 : kind ≠ 6) (h7 : kind ≠ 7) : pslx kind k x y g = 0 := by
  unfold pslx; rw [if_neg h1, if_neg h2, if_neg h3, if_neg h4, if_neg h5, if_neg h6, if_neg h7]
theorem psly_no {kind x g : Int} (h6 : kind ≠ 6) (h7 : kind ≠ 7) : psly kind x g = 0 := by unfold psly; rw [if_neg h6, if_neg h7]
theorem pslx_5 {k x y g : Int} : pslx 5 k x y g = mulF g k := by unfold pslx; rw [if_neg (by decide), if_neg (by decide), if_neg (by decide), if_neg (by decide), if_pos rfl]
theorem pslx_6 {k x y g : Int} : pslx 6 k x y g = g := by unfold pslx; rw [if_neg (by decide), if_neg (by decide), if_neg (by decide), if_neg (by decide), if_neg (by decide), if_pos rfl]
theorem pslx_7 {k x y g : Int} : pslx 7 k x y g = mulF g y := by unfold pslx; rw [if_neg (by decide), if_neg (by decide), if_neg (by decide), if_neg (by decide), if_neg (by decide), if_neg (by decide), if_pos rfl]
theorem psly_6 {x g : Int} : psly 6 x g = g := by unfold psly; rw [if_pos rfl]
theorem psly_7 {x g : Int} : psly 7 x g = mulF g x := by unfold psly; rw [if_neg (by decide), if_pos rfl]
theorem pslx_bounds {kind k x y g : Int} (hg1 : -9223372036854775808 ≤ g) (hg2 : g ≤ 9223372036854775807) : -9223372036854775808 ≤ pslx kind k x y g ∧ pslx kind k x y g ≤ 9223372036854775807 := by
  have m1 := mulF_bounds g k
  have m2 := mulF_bounds g y
  have m3 := mulF_bounds g 1073741824
  unfold pslx
  repeat' split
  all_goals omega
theorem psly_bounds {kind x g : Int} (hg1 : -9223372036854775808 ≤ g) (hg2 : g ≤ 9223372036854775807) : -9223372036854775808 ≤ psly kind x g ∧ psly kind x g ≤ 9223372036854775807 := by
  have m2 := mulF_bounds g x
  unfold psly
  repeat' split
  all_goals omega

/-- How many inputs a kind has. -/
def insN (kind : Int) : Int := if 1 ≤ kind ∧ kind ≤ 5 then 1 else if kind = 6 ∨ kind = 7 then 2 else 0
theorem insN_one {kind : Int} (h : 1 ≤ kind ∧ kind ≤ 5) : insN kind = 1 := by unfold insN; rw [if_pos h]
theorem insN_two {kind : Int} (h : kind = 6 ∨ kind = 7) : insN kind = 2 := by unfold insN; rw [if_neg (by omega), if_pos h]
theorem insN_no {kind : Int} (h : ¬ (1 ≤ kind ∧ kind ≤ 7)) : insN kind = 0 := by unfold insN; rw [if_neg (by omega), if_neg (by omega)]
theorem insN_cases (kind : Int) : (insN kind = 1 ∧ 1 ≤ kind ∧ kind ≤ 5) ∨ (insN kind = 2 ∧ (kind = 6 ∨ kind = 7)) ∨ (insN kind = 0 ∧ ¬ (1 ≤ kind ∧ kind ≤ 7)) := by
  by_cases h : 1 ≤ kind ∧ kind ≤ 5
  · exact .inl ⟨insN_one h, h⟩
  · by_cases h' : kind = 6 ∨ kind = 7
    · exact .inr (.inl ⟨insN_two h', h'⟩)
    · exact .inr (.inr ⟨insN_no (by omega), by omega⟩)
end Go.Proofs.Ytilocmdanjekhaa
