/-
  Contracts of package tensor: With, Of.
-/
import Derived.Test.YtilocmdanjekhaaTenC
import Derived.Deep.DeepCutAuto
import Derived.Deep.CutBlock
namespace Go.Proofs.Ytilocmdanjekhaa
open Go.RowKit
set_option linter.unusedVariables false
set_option linter.unusedSimpArgs false

theorem row_apart {w : World} {B : Nat} {e : TypeId} {k : Nat} {v : Value} {n : Nat} {xs : List Value} {p : Addr} {u : Value} (h : w.ownsRow B e k v n xs) (hp : ∀ q, v.ownBlock = some q → q ≠ p.block) : (w.setCell p u).ownsRow B e k v n xs := by
  rcases h.2 with h2 | ⟨g, cap, cur, hv, hbg, hg, rest⟩
  · exact ⟨h.1, .inl h2⟩
  · exact ⟨h.1, .inr ⟨g, cap, cur, hv, hbg, (Below.heap_setCell w p u g (hp g (by rw [hv]; rfl))).trans hg, rest⟩⟩

set_option maxHeartbeats 2000000 in
theorem of_no (sa : Option Addr) (sl sc : Nat) (ss : List Int) (ca : Option Addr) (cl cc : Nat) (w : World) (h : IntsAt w sa sl ss) (hl : cl ≤ 9223372036854775807) (hr : rightT ss cl = false) :
    Calls Try.prog 20 #[.slice sa sl sc, .slice ca cl cc] w (NilT w 20) := by
  obtain ⟨wA, hwA, J1, z1, n1⟩ := grid_box w (.slice none 0 0) (.slice none 0 0)
  obtain ⟨wB, hwB, J2, z2, n2⟩ := grid_box wA (.slice sa sl sc) (.slice ca cl cc)
  rw [n1.out] at J2
  have z := Lib.hid (z1.out.trans (z2.out.mono z1.out.size))
  have J := Lib.hid (J1.out.kept z2.out)
  have C := tright_any sa sl sc ss ca cl cc wB (h.kept z.out) hl
  rw [hr] at C
  have C1 := Lib.hid C
  clear h J1 C hr
  obtain ⟨j0, j1, -, -⟩ := J2.out.see
  go_enter Try.func20, Try.ntmps20
  go_upto_region 2 with (fail)
  rw [hwA.out, hwB.out]
  go_wp2_with fail
  refine C1.out.mono ?_
  rintro e w1 ⟨rfl, hb1⟩
  obtain ⟨e0, e1, f0, f1⟩ := (J.out.kept hb1).see
  obtain ⟨h0, h1, -, -⟩ := ((J.out.kept hb1).set (.slice none 0 0) (.slice none 0 0)).see
  have Z : Below w.heap.size w ((w1.setCell ⟨w.heap.size, 0, none⟩ (.slice none 0 0)).setCell ⟨w.heap.size, 1, none⟩ (.slice none 0 0)) :=
    ((z.out.trans (hb1.mono z.out.size)).setCell (Nat.le_refl _) _).setCell (Nat.le_refl _) _
  go_wp2_with fail
  refine bodyPost_ret (v := .tuple #[.agg #[.slice none 0 0, .slice none 0 0], .int .i64 20]) ?_ rfl ⟨rfl, Z⟩
  simp [results, Try.results20, go_sem, h0, h1]

set_option maxHeartbeats 2000000 in
theorem of_ok (sa : Option Addr) (sl sc : Nat) (ss : List Int) (ca : Option Addr) (cl cc : Nat) (cs : List Int) (w : World) (h : IntsAt w sa sl ss) (hs : sl ≤ 1000) (hc : IntsAt w ca cl cs) (hl : cl ≤ 1000) (hr : rightT ss cl = true) :
    Calls Try.prog 20 #[.slice sa sl sc, .slice ca cl cc] w (OkT w sl ss cl cs) := by
  obtain ⟨wA, hwA, J1, z1, n1⟩ := grid_box w (.slice none 0 0) (.slice none 0 0)
  obtain ⟨wB, hwB, J2, z2, n2⟩ := grid_box wA (.slice sa sl sc) (.slice ca cl cc)
  rw [n1.out] at J2
  have z := Lib.hid (z1.out.trans (z2.out.mono z1.out.size))
  have J := Lib.hid (J1.out.kept z2.out)
  have C := tright_any sa sl sc ss ca cl cc wB (h.kept z.out) (by omega)
  have D := Lib.hid (fun w1 (hb : Below wB.heap.size wB w1) => tcopy_any sa sl sc ss ca cl cc cs w1 ((h.kept z.out).kept hb) hs ((hc.kept z.out).kept hb) hl)
  rw [hr] at C
  have C1 := Lib.hid C
  clear h hc J1 C hr
  obtain ⟨j0, j1, -, -⟩ := J2.out.see
  go_enter Try.func20, Try.ntmps20
  go_upto_region 2 with (fail)
  rw [hwA.out, hwB.out]
  go_wp2_with fail
  refine C1.out.mono ?_
  rintro e w1 ⟨rfl, hb1⟩
  obtain ⟨k0, k1, -, -⟩ := (J2.out.kept hb1).see
  go_wp2_with fail
  refine (D.out w1 hb1).mono ?_
  rintro e w2 ⟨v', rfl, A, c, A', c', rfl, ho1, ho2, hne, hb2⟩
  have hb12 := hb1.trans (hb2.mono hb1.size)
  obtain ⟨e0, e1, f0, f1⟩ := (J.out.kept hb12).see
  obtain ⟨h0, h1, -, -⟩ := ((J.out.kept hb12).set (.slice A sl c) (.slice A' cl c')).see
  have hw1 : w.heap.size < w1.heap.size := by have := n1.out; have := n2.out; have := hb1.size; omega
  have P : NewT w sl ss cl cs (.agg #[.slice A sl c, .slice A' cl c']) ((w2.setCell ⟨w.heap.size, 0, none⟩ (.slice A sl c)).setCell ⟨w.heap.size, 1, none⟩ (.slice A' cl c')) :=
    ⟨A, c, A', c', rfl, Joins.ownsRow_le (row_far (row_far ho1 hw1) hw1) (Nat.le_of_lt hw1), Joins.ownsRow_le (row_far (row_far ho2 hw1) hw1) (Nat.le_of_lt hw1), hne,
      ((z.out.trans (hb12.mono z.out.size)).setCell (Nat.le_refl _) _).setCell (Nat.le_refl _) _⟩
  have P' := Lib.hid P
  clear P ho1 ho2 hne hb12 k0 k1 hw1
  go_wp2_with fail
  refine bodyPost_ret (v := .tuple #[.agg #[.slice A sl c, .slice A' cl c'], .int .i64 0]) ?_ rfl ⟨_, rfl, P'.out⟩
  simp [results, Try.results20, go_sem, h0, h1]
end Go.Proofs.Ytilocmdanjekhaa
