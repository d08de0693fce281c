/-
  Contracts of package tensor: With, Of.
-/
import Derived.Test.YtjphdkbhkkpeoaaTenC
import Derived.Deep.DeepCutAuto
import Derived.Deep.CutBlock
namespace Go.Proofs.Ytjphdkbhkkpeoaa
open Go.RowKit
set_option linter.unusedVariables false
set_option linter.unusedSimpArgs false

theorem row_apart {w : World} {B : Nat} {e : TypeId} {k : Nat} {v : Value} {n : Nat} {xs : List Value} {p : Addr} {u : Value} (h : w.ownsRow B e k v n xs) (hp : ∀ q, v.ownBlock = some q → q ≠ p.block) : (w.setCell p u).ownsRow B e k v n xs := by
  rcases h.2 with h2 | ⟨g, cap, cur, hv, hbg, hg, rest⟩
  · exact ⟨h.1, .inl h2⟩
  · exact ⟨h.1, .inr ⟨g, cap, cur, hv, hbg, (Below.heap_setCell w p u g (hp g (by rw [hv]; rfl))).trans hg, rest⟩⟩

set_option maxHeartbeats 2000000 in
theorem twith_ok (sa : Option Addr) (sl sc : Nat) (ss : List Int) (ca : Option Addr) (cl cc : Nat) (cs : List Int) (ta : Option Addr) (tl tc : Nat) (ts : List Int) (v : Int) (w : World) (h : IntsAt w sa sl ss) (hs : sl ≤ 1000) (hc : IntsAt w ca cl cs) (hl : cl ≤ 1000) (h2 : IntsAt w ta tl ts)
    (k : Nat) (hE : tplaceE ss cl ts = 0) (hN : tplaceN ss cl ts = k) (hk : k < cl) :
    Calls Try.prog 20 #[.agg #[.slice sa sl sc, .slice ca cl cc], .int .i64 v, .slice ta tl tc] w (OkT w sl ss cl (cs.set k v)) := by
  obtain ⟨wA, hwA, J1, z1, n1⟩ := grid_box w (.slice sa sl sc) (.slice ca cl cc)
  obtain ⟨wB, hwB, J2, z2, n2⟩ := grid_box wA (.slice none 0 0) (.slice none 0 0)
  rw [n1.out] at J2
  have z := Lib.hid (z1.out.trans (z2.out.mono z1.out.size))
  have J := Lib.hid (J1.out.kept z2.out)
  have C := tplace_any sa sl sc ss ca cl cc ta tl tc ts wB (h.kept z.out) (by omega) (h2.kept z.out)
  have D := Lib.hid (fun w1 (hb : Below wB.heap.size wB w1) => tcopy_any sa sl sc ss ca cl cc cs w1 ((h.kept z.out).kept hb) hs ((hc.kept z.out).kept hb) hl)
  have hcl := Lib.hid hc.1
  clear h h2 hc J1
  obtain ⟨j0, j1, -, -⟩ := J.out.see
  rw [hE, hN] at C
  have C1 := Lib.hid C
  clear C hE hN
  go_enter Try.func20, Try.ntmps20
  go_wp2_with fail
  rw [hwA.out, hwB.out]
  go_wp2_with fail
  refine C1.out.mono ?_
  rintro e w1 ⟨rfl, hb1⟩
  obtain ⟨k0, k1, -, -⟩ := (J.out.kept hb1).see
  go_wp2_with fail
  refine (D.out w1 hb1).mono ?_
  rintro e w2 ⟨v', rfl, A, c, A', c', rfl, ho1, ho2, hne, hb2⟩
  obtain ⟨g, c2, hv⟩ := Joins.ownsRow_form ho2 (by omega)
  simp only [Value.slice.injEq] at hv
  obtain ⟨rfl, -, rfl⟩ := hv
  obtain ⟨g1, g2⟩ := ho2.lt g rfl
  obtain ⟨wC, hwC, JC, zC, nC⟩ := grid_box w2 (.slice A sl c) (.slice (some ⟨g, 0, none⟩) cl c')
  have hb12 := hb1.trans (hb2.mono hb1.size)
  have J3 := (J2.out.kept (hb12.trans (zC.out.mono hb12.size)))
  have hn2 : w.heap.size + 1 < w1.heap.size := by have := n1.out; have := n2.out; have := hb1.size; omega
  obtain ⟨x, hx⟩ : ∃ x, wC.cell? ⟨g, k, none⟩ = some x := by
    have e : w2.cell? ⟨g, k, none⟩ = (cs.map (Value.int .i64))[k]? := ho2.cellAt k (by omega)
    rw [List.getElem?_eq_getElem (by rw [List.length_map, hcl.out]; exact hk)] at e
    exact ⟨_, cell_later zC.out e⟩
  have hf : wC.frozen? ⟨g, k, none⟩ = false := by
    have := ho2.frozenAt k
    rw [← (bcell zC.out).2 g k g2] at this
    exact this
  have ho3 : wC.ownsRow w1.heap.size 27 1 (.slice (some ⟨g, 0, none⟩) cl c') cl (cs.map (Value.int .i64)) := row_kept ho2 zC.out
  obtain ⟨ho4, hg4⟩ := ho3.stored k (.int .i64 v)
  rw [← List.map_set] at ho4
  obtain ⟨c0, c1, -, -⟩ := JC.out.see
  obtain ⟨wD, hwD⟩ : ∃ wD, wC.setCell ⟨g, k, none⟩ (.int .i64 v) = wD := ⟨_, rfl⟩
  obtain ⟨d0, d1, -, -⟩ := (JC.out.other (p := ⟨g, k, none⟩) (.int .i64 v) (by simp; omega)).see
  have J4 := J3.other (p := ⟨g, k, none⟩) (.int .i64 v) (by simp; omega)
  obtain ⟨e0, e1, f0, f1⟩ := J4.see
  obtain ⟨h0, h1, -, -⟩ := (J4.set (.slice A sl c) (.slice (some ⟨g, 0, none⟩) cl c')).see
  have hA : ∀ p, A = some p → w1.heap.size ≤ p.block ∧ p.block < w2.heap.size ∧ p.block ≠ g := fun p hp => by
    subst hp; exact ⟨(ho1.lt p.block rfl).1, (ho1.lt p.block rfl).2, hne p _ rfl rfl⟩
  have hS : wD.ownsRow w1.heap.size 3 1 (.slice A sl c) sl (ss.map (Value.int .i64)) := by
    rw [← hwD]
    exact row_apart (row_kept ho1 zC.out) (fun q hq => by
      cases A with
      | none => cases hq
      | some p => cases hq; exact (hA p rfl).2.2)
  rw [hwD] at ho4 hg4 d0 d1 e0 e1 f0 f1 h0 h1
  have P : NewT w sl ss cl (cs.set k v) (.agg #[.slice A sl c, .slice (some ⟨g, 0, none⟩) cl c']) ((wD.setCell ⟨w.heap.size + 1, 0, none⟩ (.slice A sl c)).setCell ⟨w.heap.size + 1, 1, none⟩ (.slice (some ⟨g, 0, none⟩) cl c')) := by
    have hw1 : w.heap.size ≤ w1.heap.size := Nat.le_trans z.out.size hb1.size
    refine ⟨A, c, _, c', rfl, Joins.ownsRow_le (row_far (row_far hS ?_) ?_) hw1, Joins.ownsRow_le (row_far (row_far ho4 ?_) ?_) hw1, ?_, ?_⟩
    · exact hn2
    · exact hn2
    · exact hn2
    · exact hn2
    · rintro p q hp hq
      cases hq
      exact (hA p hp).2.2
    · rw [← hwD]
      exact (((z.out.trans ((hb12.trans (zC.out.mono hb12.size)).mono z.out.size)).setCell (by exact Nat.le_trans hw1 g1) _).setCell (Nat.le_add_right _ _) _).setCell (Nat.le_add_right _ _) _
  have P' := Lib.hid P
  have hwD' := Lib.hid hwD
  clear P ho1 ho2 ho3 ho4 hS hA hne hwD hg4 J3 J4 hb12 k0 k1 D C1
  go_upto_region 5 with (fail)
  rw [hwC.out]
  go_upto_region 6 with (fail)
  rw [hwD'.out]
  go_wp2_with fail
  refine bodyPost_ret (v := .tuple #[.agg #[.slice A sl c, .slice (some ⟨g, 0, none⟩) cl c'], .int .i64 0]) ?_ rfl ⟨_, rfl, P'.out⟩
  simp [results, Try.results20, go_sem, h0, h1]

set_option maxHeartbeats 2000000 in
theorem of_no (sa : Option Addr) (sl sc : Nat) (ss : List Int) (ca : Option Addr) (cl cc : Nat) (w : World) (h : IntsAt w sa sl ss) (hl : cl ≤ 9223372036854775807) (hr : rightT ss cl = false) :
    Calls Try.prog 11 #[.slice sa sl sc, .slice ca cl cc] w (NilT w 20) := by
  obtain ⟨wA, hwA, J1, z1, n1⟩ := grid_box w (.slice none 0 0) (.slice none 0 0)
  obtain ⟨wB, hwB, J2, z2, n2⟩ := grid_box wA (.slice sa sl sc) (.slice ca cl cc)
  rw [n1.out] at J2
  have z := Lib.hid (z1.out.trans (z2.out.mono z1.out.size))
  have J := Lib.hid (J1.out.kept z2.out)
  have C := tright_any sa sl sc ss ca cl cc wB (h.kept z.out) hl
  rw [hr] at C
  have C1 := Lib.hid C
  clear h J1 C hr
  obtain ⟨j0, j1, -, -⟩ := J2.out.see
  go_enter Try.func11, Try.ntmps11
  go_upto_region 2 with (fail)
  rw [hwA.out, hwB.out]
  go_wp2_with fail
  refine C1.out.mono ?_
  rintro e w1 ⟨rfl, hb1⟩
  obtain ⟨e0, e1, f0, f1⟩ := (J.out.kept hb1).see
  obtain ⟨h0, h1, -, -⟩ := ((J.out.kept hb1).set (.slice none 0 0) (.slice none 0 0)).see
  have Z : Below w.heap.size w ((w1.setCell ⟨w.heap.size, 0, none⟩ (.slice none 0 0)).setCell ⟨w.heap.size, 1, none⟩ (.slice none 0 0)) :=
    ((z.out.trans (hb1.mono z.out.size)).setCell (Nat.le_refl _) _).setCell (Nat.le_refl _) _
  go_wp2_with fail
  refine bodyPost_ret (v := .tuple #[.agg #[.slice none 0 0, .slice none 0 0], .int .i64 20]) ?_ rfl ⟨rfl, Z⟩
  simp [results, Try.results11, go_sem, h0, h1]

set_option maxHeartbeats 2000000 in
theorem of_ok (sa : Option Addr) (sl sc : Nat) (ss : List Int) (ca : Option Addr) (cl cc : Nat) (cs : List Int) (w : World) (h : IntsAt w sa sl ss) (hs : sl ≤ 1000) (hc : IntsAt w ca cl cs) (hl : cl ≤ 1000) (hr : rightT ss cl = true) :
    Calls Try.prog 11 #[.slice sa sl sc, .slice ca cl cc] w (OkT w sl ss cl cs) := by
  obtain ⟨wA, hwA, J1, z1, n1⟩ := grid_box w (.slice none 0 0) (.slice none 0 0)
  obtain ⟨wB, hwB, J2, z2, n2⟩ := grid_box wA (.slice sa sl sc) (.slice ca cl cc)
  rw [n1.out] at J2
  have z := Lib.hid (z1.out.trans (z2.out.mono z1.out.size))
  have J := Lib.hid (J1.out.kept z2.out)
  have C := tright_any sa sl sc ss ca cl cc wB (h.kept z.out) (by omega)
  have D := Lib.hid (fun w1 (hb : Below wB.heap.size wB w1) => tcopy_any sa sl sc ss ca cl cc cs w1 ((h.kept z.out).kept hb) hs ((hc.kept z.out).kept hb) hl)
  rw [hr] at C
  have C1 := Lib.hid C
  clear h hc J1 C hr
  obtain ⟨j0, j1, -, -⟩ := J2.out.see
  go_enter Try.func11, Try.ntmps11
  go_upto_region 2 with (fail)
  rw [hwA.out, hwB.out]
  go_wp2_with fail
  refine C1.out.mono ?_
  rintro e w1 ⟨rfl, hb1⟩
  obtain ⟨k0, k1, -, -⟩ := (J2.out.kept hb1).see
  go_wp2_with fail
  refine (D.out w1 hb1).mono ?_
  rintro e w2 ⟨v', rfl, A, c, A', c', rfl, ho1, ho2, hne, hb2⟩
  have hb12 := hb1.trans (hb2.mono hb1.size)
  obtain ⟨e0, e1, f0, f1⟩ := (J.out.kept hb12).see
  obtain ⟨h0, h1, -, -⟩ := ((J.out.kept hb12).set (.slice A sl c) (.slice A' cl c')).see
  have hw1 : w.heap.size < w1.heap.size := by have := n1.out; have := n2.out; have := hb1.size; omega
  have P : NewT w sl ss cl cs (.agg #[.slice A sl c, .slice A' cl c']) ((w2.setCell ⟨w.heap.size, 0, none⟩ (.slice A sl c)).setCell ⟨w.heap.size, 1, none⟩ (.slice A' cl c')) :=
    ⟨A, c, A', c', rfl, Joins.ownsRow_le (row_far (row_far ho1 hw1) hw1) (Nat.le_of_lt hw1), Joins.ownsRow_le (row_far (row_far ho2 hw1) hw1) (Nat.le_of_lt hw1), hne,
      ((z.out.trans (hb12.mono z.out.size)).setCell (Nat.le_refl _) _).setCell (Nat.le_refl _) _⟩
  have P' := Lib.hid P
  clear P ho1 ho2 hne hb12 k0 k1 hw1
  go_wp2_with fail
  refine bodyPost_ret (v := .tuple #[.agg #[.slice A sl c, .slice A' cl c'], .int .i64 0]) ?_ rfl ⟨_, rfl, P'.out⟩
  simp [results, Try.results11, go_sem, h0, h1]
end Go.Proofs.Ytjphdkbhkkpeoaa
