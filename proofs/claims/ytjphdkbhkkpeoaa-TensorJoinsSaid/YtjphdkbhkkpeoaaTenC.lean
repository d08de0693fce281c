/-
  Contracts of package tensor: place, Get, With, Of.
-/
import Derived.Test.YtjphdkbhkkpeoaaTenB
namespace Go.Proofs.Ytjphdkbhkkpeoaa
open Go.RowKit
set_option linter.unusedVariables false
set_option linter.unusedSimpArgs false

def tplaceN (ss : List Int) (n : Nat) (l : List Int) : Int := if rightT ss n = true then placeN ss l else 0
def tplaceE (ss : List Int) (n : Nat) (l : List Int) : Int := if rightT ss n = true then placeE ss l else 20
theorem tplace_no {ss : List Int} {n : Nat} {l : List Int} (h : rightT ss n = false) : 0 = tplaceN ss n l ∧ 20 = tplaceE ss n l := by simp [tplaceN, tplaceE, h]
theorem tplace_yes {ss : List Int} {n : Nat} {l : List Int} (h : rightT ss n = true) : placeN ss l = tplaceN ss n l ∧ placeE ss l = tplaceE ss n l := by simp [tplaceN, tplaceE, h]

set_option maxHeartbeats 1000000 in
theorem tplace_any (sa : Option Addr) (sl sc : Nat) (ss : List Int) (ca : Option Addr) (cl cc : Nat) (ta : Option Addr) (tl tc : Nat) (ts : List Int) (w : World) (h : IntsAt w sa sl ss) (hl : cl ≤ 9223372036854775807) (h2 : IntsAt w ta tl ts) :
    Calls Try.prog 42 #[.agg #[.slice sa sl sc, .slice ca cl cc], .slice ta tl tc] w fun e w' => e = .returned (.tuple #[.int .i64 (tplaceN ss cl ts), .int .i64 (tplaceE ss cl ts)]) ∧ Below w.heap.size w w' := by
  obtain ⟨wB, hwB, J, z0, -⟩ := grid_box w (.slice sa sl sc) (.slice ca cl cc)
  have C := tright_any sa sl sc ss ca cl cc wB (h.kept z0.out) hl
  have D := Lib.hid (fun w1 (hb : Below wB.heap.size wB w1) => place_any sa sl sc ss ta tl tc ts w1 ((h.kept z0.out).kept hb) ((h2.kept z0.out).kept hb))
  clear h h2
  obtain ⟨j0, j1, -, -⟩ := J.out.see
  cases b : rightT ss cl
  · rw [b] at C
    have C1 := Lib.hid C
    have E := Lib.hid (tplace_no (l := ts) b)
    clear C b D
    go_enter Try.func42, Try.ntmps42
    go_wp2_with fail
    rw [hwB.out]
    go_wp2_with fail
    refine C1.out.mono ?_
    rintro e w1 ⟨rfl, hb1⟩
    go_wp2_with fail
    go_ret2
    exact ⟨ret_ints2 E.out.1 E.out.2, z0.out.trans (hb1.mono z0.out.size)⟩
  · rw [b] at C
    have C1 := Lib.hid C
    have E := Lib.hid (tplace_yes (l := ts) b)
    clear C b
    obtain ⟨x, hx⟩ : ∃ x, placeN ss ts = x := ⟨_, rfl⟩
    obtain ⟨y, hy⟩ : ∃ y, placeE ss ts = y := ⟨_, rfl⟩
    rw [hx, hy] at E D
    clear hx hy
    go_enter Try.func42, Try.ntmps42
    go_wp2_with fail
    rw [hwB.out]
    go_wp2_with fail
    refine C1.out.mono ?_
    rintro e w1 ⟨rfl, hb1⟩
    obtain ⟨k0, k1, -, -⟩ := (J.out.kept hb1).see
    go_wp2_with fail
    refine (D.out _ hb1).mono ?_
    rintro e w2 ⟨rfl, hb2⟩
    go_wp2_with fail
    go_ret2
    exact ⟨ret_ints2 E.out.1 E.out.2, z0.out.trans ((hb1.trans (hb2.mono hb1.size)).mono z0.out.size)⟩

/-- Where there is such a place it is one of the cells. -/
theorem tplace_cell {ss : List Int} {n : Nat} {l : List Int} (h : tplaceE ss n l = 0) : ∃ k : Nat, k < n ∧ tplaceN ss n l = k := by
  unfold tplaceE at h
  by_cases hr : rightT ss n = true
  · rw [if_pos hr] at h
    obtain ⟨h1, h2⟩ := rightT_parts hr
    unfold placeE at h
    rw [if_pos h1] at h
    by_cases ha : atOk ss l = true
    · obtain ⟨p1, p2⟩ := numP_lt h1 ha
      refine ⟨(numP (ss.zip l)).toNat, by omega, ?_⟩
      simp only [tplaceN, placeN, hr, h1, ha, and_self, if_true]
      omega
    · rw [if_neg ha] at h; omega
  · rw [if_neg hr] at h; omega
theorem tplace_none {ss : List Int} {n : Nat} {l : List Int} (h : tplaceE ss n l ≠ 0) : tplaceN ss n l = 0 := by
  unfold tplaceE at h
  unfold tplaceN
  by_cases hr : rightT ss n = true
  · rw [if_pos hr] at h ⊢
    obtain ⟨h1, h2⟩ := rightT_parts hr
    unfold placeE at h
    unfold placeN
    rw [if_pos h1] at h
    by_cases ha : atOk ss l = true
    · rw [if_pos ha] at h; exact absurd rfl h
    · rw [if_neg (fun hh => ha hh.2)]
  · rw [if_neg hr]

set_option maxHeartbeats 1000000 in
theorem tget_none (sa : Option Addr) (sl sc : Nat) (ss : List Int) (ca : Option Addr) (cl cc : Nat) (ta : Option Addr) (tl tc : Nat) (ts : List Int) (w : World) (h : IntsAt w sa sl ss) (hl : cl ≤ 9223372036854775807) (h2 : IntsAt w ta tl ts)
    (hE : tplaceE ss cl ts ≠ 0) :
    Calls Try.prog 19 #[.agg #[.slice sa sl sc, .slice ca cl cc], .slice ta tl tc] w fun e w' => e = .returned (.tuple #[.int .i64 0, .int .i64 (tplaceE ss cl ts)]) ∧ Below w.heap.size w w' := by
  obtain ⟨wB, hwB, J, z0, -⟩ := grid_box w (.slice sa sl sc) (.slice ca cl cc)
  have C := tplace_any sa sl sc ss ca cl cc ta tl tc ts wB (h.kept z0.out) hl (h2.kept z0.out)
  clear h h2
  obtain ⟨j0, j1, -, -⟩ := J.out.see
  obtain ⟨y, hy⟩ : ∃ y, tplaceE ss cl ts = y := ⟨_, rfl⟩
  obtain ⟨x, hx⟩ : ∃ x, tplaceN ss cl ts = x := ⟨_, rfl⟩
  rw [hy] at hE
  rw [hx, hy] at C
  rw [hy]
  have C1 := Lib.hid C
  clear C hx hy
  go_enter Try.func19, Try.ntmps19
  go_wp2_with fail
  rw [hwB.out]
  go_wp2_with fail
  refine C1.out.mono ?_
  rintro e w1 ⟨rfl, hb1⟩
  go_wp2_with fail
  go_ret2
  exact ⟨rfl, z0.out.trans (hb1.mono z0.out.size)⟩

set_option maxHeartbeats 1000000 in
theorem tget_ok (sa : Option Addr) (sl sc : Nat) (ss : List Int) (ca : Option Addr) (cl cc : Nat) (cs : List Int) (ta : Option Addr) (tl tc : Nat) (ts : List Int) (w : World) (h : IntsAt w sa sl ss) (hc : IntsAt w ca cl cs) (h2 : IntsAt w ta tl ts)
    (k : Nat) (hE : tplaceE ss cl ts = 0) (hN : tplaceN ss cl ts = k) (hk : k < cl) :
    Calls Try.prog 19 #[.agg #[.slice sa sl sc, .slice ca cl cc], .slice ta tl tc] w fun e w' => e = .returned (.tuple #[.int .i64 (cs.getD k 0), .int .i64 0]) ∧ Below w.heap.size w w' := by
  obtain ⟨wB, hwB, J, z0, -⟩ := grid_box w (.slice sa sl sc) (.slice ca cl cc)
  have C := tplace_any sa sl sc ss ca cl cc ta tl tc ts wB (h.kept z0.out) hc.2.1 (h2.kept z0.out)
  have hl := hc.2.1
  obtain ⟨b, off, rfl, hcell⟩ : ∃ b off, ca = some ⟨b, off, none⟩ ∧ wB.cell? ⟨b, off + k, none⟩ = some (.int .i64 (cs.getD k 0)) := by
    rcases (hc.kept z0.out).2.2.2 with h4 | ⟨b, off, ha, hc⟩
    · omega
    · exact ⟨b, off, ha, hc k hk⟩
  have HC := Lib.hid (fun w1 (hb : Below wB.heap.size wB w1) => cell_later hb hcell)
  clear h h2 hc hcell
  obtain ⟨j0, j1, -, -⟩ := J.out.see
  obtain ⟨x, hx⟩ : ∃ x, cs.getD k 0 = x := ⟨_, rfl⟩
  rw [hx] at HC
  rw [hx]
  rw [hE, hN] at C
  have C1 := Lib.hid C
  clear C hE hN hx
  go_enter Try.func19, Try.ntmps19
  go_wp2_with fail
  rw [hwB.out]
  go_wp2_with fail
  refine C1.out.mono ?_
  rintro e w1 ⟨rfl, hb1⟩
  obtain ⟨k0, k1, -, -⟩ := (J.out.kept hb1).see
  have hcw := HC.out w1 hb1
  go_wp2_with fail
  go_ret2
  exact ⟨rfl, z0.out.trans (hb1.mono z0.out.size)⟩

/-- No tensor and this error. -/
def NilT (w : World) (x : Int) (e : Ending) (w' : World) : Prop := e = .returned (.tuple #[.agg #[.slice none 0 0, .slice none 0 0], .int .i64 x]) ∧ Below w.heap.size w w'
/-- A new tensor and no error. -/
def OkT (w : World) (sl : Nat) (ss : List Int) (cl : Nat) (cs : List Int) (e : Ending) (w' : World) : Prop := ∃ v, e = .returned (.tuple #[v, .int .i64 0]) ∧ NewT w sl ss cl cs v w'

set_option maxHeartbeats 1000000 in
theorem twith_none (sa : Option Addr) (sl sc : Nat) (ss : List Int) (ca : Option Addr) (cl cc : Nat) (ta : Option Addr) (tl tc : Nat) (ts : List Int) (v : Int) (w : World) (h : IntsAt w sa sl ss) (hl : cl ≤ 9223372036854775807) (h2 : IntsAt w ta tl ts)
    (hE : tplaceE ss cl ts ≠ 0) :
    Calls Try.prog 20 #[.agg #[.slice sa sl sc, .slice ca cl cc], .int .i64 v, .slice ta tl tc] w (NilT w (tplaceE ss cl ts)) := by
  obtain ⟨wA, hwA, J1, z1, n1⟩ := grid_box w (.slice sa sl sc) (.slice ca cl cc)
  obtain ⟨wB, hwB, J2, z2, n2⟩ := grid_box wA (.slice none 0 0) (.slice none 0 0)
  rw [n1.out] at J2
  have z := Lib.hid (z1.out.trans (z2.out.mono z1.out.size))
  have J := Lib.hid (J1.out.kept z2.out)
  have C := tplace_any sa sl sc ss ca cl cc ta tl tc ts wB (h.kept z.out) hl (h2.kept z.out)
  clear h h2 J1
  obtain ⟨j0, j1, -, -⟩ := J.out.see
  obtain ⟨y, hy⟩ : ∃ y, tplaceE ss cl ts = y := ⟨_, rfl⟩
  obtain ⟨x, hx⟩ : ∃ x, tplaceN ss cl ts = x := ⟨_, rfl⟩
  rw [hy] at hE
  rw [hx, hy] at C
  rw [hy]
  have C1 := Lib.hid C
  clear C hx hy
  go_enter Try.func20, Try.ntmps20
  go_wp2_with fail
  rw [hwA.out, hwB.out]
  go_wp2_with fail
  refine C1.out.mono ?_
  rintro e w1 ⟨rfl, hb1⟩
  obtain ⟨e0, e1, f0, f1⟩ := (J2.out.kept hb1).see
  obtain ⟨h0, h1, -, -⟩ := ((J2.out.kept hb1).set (.slice none 0 0) (.slice none 0 0)).see
  have Z : Below w.heap.size w ((w1.setCell ⟨w.heap.size + 1, 0, none⟩ (.slice none 0 0)).setCell ⟨w.heap.size + 1, 1, none⟩ (.slice none 0 0)) :=
    ((z.out.trans (hb1.mono z.out.size)).setCell (Nat.le_add_right _ _) _).setCell (Nat.le_add_right _ _) _
  go_wp2_with fail
  refine bodyPost_ret (v := .tuple #[.agg #[.slice none 0 0, .slice none 0 0], .int .i64 y]) ?_ rfl ⟨rfl, Z⟩
  simp [results, Try.results20, go_sem, h0, h1]
end Go.Proofs.Ytjphdkbhkkpeoaa
