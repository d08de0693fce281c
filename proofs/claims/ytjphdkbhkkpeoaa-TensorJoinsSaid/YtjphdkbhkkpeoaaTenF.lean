/-
  Contracts of package tensor: Scale, Add, Dot.
-/
import Derived.Test.YtjphdkbhkkpeoaaOnly
import Derived.Test.YtjphdkbhkkpeoaaFixS
namespace Go.Proofs.Ytjphdkbhkkpeoaa
open Go.RowKit
set_option linter.unusedVariables false
set_option linter.unusedSimpArgs false

set_option maxHeartbeats 1000000 in
theorem scale_no (sa : Option Addr) (sl sc : Nat) (ss : List Int) (ca : Option Addr) (cl cc : Nat) (y : Int) (w : World) (h : IntsAt w sa sl ss) (hl : cl ≤ 9223372036854775807) (hr : rightT ss cl = false) :
    Calls Try.prog 31 #[.agg #[.slice sa sl sc, .slice ca cl cc], .int .i64 y] w (NilT w 20) := by
  obtain ⟨wA, hwA, J1, z1, n1⟩ := grid_box w (.slice sa sl sc) (.slice ca cl cc)
  obtain ⟨wB, hwB, J2, z2, n2⟩ := grid_box wA (.slice none 0 0) (.slice none 0 0)
  rw [n1.out] at J2
  have z := Lib.hid (z1.out.trans (z2.out.mono z1.out.size))
  have J := Lib.hid (J1.out.kept z2.out)
  have C := tright_any sa sl sc ss ca cl cc wB (h.kept z.out) hl
  rw [hr] at C
  have C1 := Lib.hid C
  clear h J1 C hr
  obtain ⟨j0, j1, -, -⟩ := J.out.see
  go_enter Try.func31, Try.ntmps31
  go_upto_region 1 with (fail)
  rw [hwA.out, hwB.out]
  go_wp2_with fail
  refine C1.out.mono ?_
  rintro e w1 ⟨rfl, hb1⟩
  obtain ⟨e0, e1, f0, f1⟩ := (J2.out.kept hb1).see
  obtain ⟨h0, h1, -, -⟩ := ((J2.out.kept hb1).set (.slice none 0 0) (.slice none 0 0)).see
  have Z : Below w.heap.size w ((w1.setCell ⟨w.heap.size + 1, 0, none⟩ (.slice none 0 0)).setCell ⟨w.heap.size + 1, 1, none⟩ (.slice none 0 0)) :=
    ((z.out.trans (hb1.mono z.out.size)).setCell (Nat.le_add_right _ _) _).setCell (Nat.le_add_right _ _) _
  go_wp2_with fail
  refine bodyPost_ret (v := .tuple #[.agg #[.slice none 0 0, .slice none 0 0], .int .i64 20]) ?_ rfl ⟨rfl, Z⟩
  simp [results, Try.results31, go_sem, h0, h1]

set_option maxHeartbeats 2000000 in
theorem scale_ok (sa : Option Addr) (sl sc : Nat) (ss : List Int) (ca : Option Addr) (cl cc : Nat) (cs : List Int) (y : Int) (w : World) (h : IntsAt w sa sl ss) (hs : sl ≤ 1000) (hc : IntsAt w ca cl cs) (hl : cl ≤ 1000) (hr : rightT ss cl = true) (hl0 : 0 < cl)
    (hy1 : -9223372036854775808 ≤ y) (hy2 : y ≤ 9223372036854775807) :
    Calls Try.prog 31 #[.agg #[.slice sa sl sc, .slice ca cl cc], .int .i64 y] w (OkT w sl ss cl (scaleL cs y)) := by
  obtain ⟨wA, hwA, J1, z1, n1⟩ := grid_box w (.slice sa sl sc) (.slice ca cl cc)
  obtain ⟨wB, hwB, J2, z2, n2⟩ := grid_box wA (.slice none 0 0) (.slice none 0 0)
  rw [n1.out] at J2
  have z := Lib.hid (z1.out.trans (z2.out.mono z1.out.size))
  have J := Lib.hid (J1.out.kept z2.out)
  have C := tright_any sa sl sc ss ca cl cc wB (h.kept z.out) (by omega)
  rw [hr] at C
  have C1 := Lib.hid C
  have D := Lib.hid (fun w1 (hb : Below wB.heap.size wB w1) => tcopy_any sa sl sc ss ca cl cc cs w1 ((h.kept z.out).kept hb) hs ((hc.kept z.out).kept hb) hl)
  have hfit := Lib.hid hc.2.2.1
  have hcl := Lib.hid hc.1
  have hy := Lib.hid (And.intro hy1 hy2)
  clear h hc J1 C hr hy1 hy2
  obtain ⟨j0, j1, -, -⟩ := J.out.see
  go_enter Try.func31, Try.ntmps31
  go_upto_region 1 with (fail)
  rw [hwA.out, hwB.out]
  go_wp2_with fail
  refine C1.out.mono ?_
  rintro e w1 ⟨rfl, hb1⟩
  obtain ⟨k0, k1, -, -⟩ := (J.out.kept hb1).see
  go_wp2_with fail
  refine (D.out w1 hb1).mono ?_
  rintro e w2 ⟨v', rfl, A, c, A', c', rfl, ho1, ho2, hne, hb2⟩
  obtain ⟨g, c2, hv⟩ := Joins.ownsRow_form ho2 (by omega)
  simp only [Value.slice.injEq] at hv
  obtain ⟨rfl, -, rfl⟩ := hv
  obtain ⟨g1, g2⟩ := ho2.lt g rfl
  obtain ⟨wC, hwC, JC, zC, nC⟩ := grid_box w2 (.slice A sl c) (.slice (some ⟨g, 0, none⟩) cl c')
  have hb12 := hb1.trans (hb2.mono hb1.size)
  have J3 := Lib.hid (J2.out.kept (hb12.trans (zC.out.mono hb12.size)))
  have hn2 : w.heap.size + 1 < w1.heap.size := by have := n1.out; have := n2.out; have := hb1.size; omega
  have hA := Lib.hid (fun q (hq : (Value.slice A sl c).ownBlock = some q) => (by
    cases A with
    | none => cases hq
    | some p => cases hq; exact hne p _ rfl rfl : q ≠ g))
  have r1 := Lib.hid (row_kept ho1 zC.out)
  have r2 := Lib.hid (show wC.ownsRow w1.heap.size 27 1 (.slice (some ⟨g, 0, none⟩) cl c') cl ((mixR (scaleL cs y) cs 0).map (Value.int .i64)) by rw [mixR_zero]; exact row_kept ho2 zC.out)
  have zz := Lib.hid (z.out.trans ((hb12.trans (zC.out.mono hb12.size)).mono z.out.size))
  have hn2' := Lib.hid hn2
  clear ho1 ho2 hne hb12 k0 k1 D C1 hn2
  go_upto_region 4 with (fail)
  rw [hwC.out]
  obtain ⟨c0, c1, -, -⟩ := JC.out.see
  go_wp2_with fail
  go_loopw [18] (fun i wr => ∃ k : Nat, k ≤ cl ∧ i = .int .i64 k ∧ Hid (wr.ownsRow w1.heap.size 27 1 (.slice (some ⟨g, 0, none⟩) cl c') cl ((mixR (scaleL cs y) cs k).map (Value.int .i64))) ∧ Hid (Only g wC wr)) (fun i _ => cl - (intOf i).toNat)
  case atStart => exact ⟨0, Nat.zero_le _, rfl, r2, Lib.hid (Only.refl _ _)⟩
  case round =>
    obtain ⟨k, hk, rfl, hrow, hon⟩ := hrel
    have JL := hon.out.gat JC.out (by omega)
    obtain ⟨l0, l1, -, -⟩ := JL.see
    by_cases hlt : k < cl
    · obtain ⟨x, hx⟩ : ∃ x, cs.getD k 0 = x := ⟨_, rfl⟩
      have hcell : wr.cell? ⟨g, k, none⟩ = some (.int .i64 x) := by
        have e : wr.cell? ⟨g, k, none⟩ = ((mixR (scaleL cs y) cs k).map (Value.int .i64))[k]? := hrow.out.cellAt k (by omega)
        rw [List.getElem?_map, mixR_get (scaleL_length cs y) (by rw [hcl.out]; exact hlt), hx] at e
        exact e
      have hf := hrow.out.frozenAt k
      obtain ⟨x1, x2⟩ := hfit.out.getD k
      rw [hx] at x1 x2
      have M := Lib.hid (fun w => mul_any x y w x1 x2 hy.out.1 hy.out.2)
      have hm : (scaleL cs y).getD k 0 = mulF x y := by rw [scaleL_get (by rw [hcl.out]; exact hlt), hx]
      obtain ⟨m, hmm⟩ : ∃ m, mulF x y = m := ⟨_, rfl⟩
      rw [hmm] at M hm
      obtain ⟨ho4, hg4⟩ := hrow.out.stored k (.int .i64 m)
      rw [← hm, ← List.map_set, mixR_set (scaleL_length cs y) (by rw [hcl.out]; exact hlt), hm] at ho4
      have ho4' := Lib.hid ho4
      have hb4 := Lib.hid (hon.out.setCell k (.int .i64 m))
      have u3 : (wr.setCell ⟨g, k, none⟩ (.int .i64 m)).drew.cell? ⟨w2.heap.size, 1, none⟩ = some (.slice (some ⟨g, 0, none⟩) cl c') := (JL.other (p := ⟨g, k, none⟩) (.int .i64 m) (by simp; omega)).see.2.1
      clear ho4 hg4 hm hmm hx JL x1 x2
      go_wp2_with fail
      have u0 : wr.drew.cell? ⟨w2.heap.size, 1, none⟩ = some (.slice (some ⟨g, 0, none⟩) cl c') := l1
      have u1 : wr.drew.cell? ⟨g, k, none⟩ = some (.int .i64 x) := hcell
      have u2 : wr.drew.frozen? ⟨g, k, none⟩ = false := hf
      go_region_held3 (fun w' => w'.cell? ⟨w2.heap.size, 1, none⟩ = some (.slice (some ⟨g, 0, none⟩) cl c'))
        (first | exact u0 | exact l1 | exact u3 | go_keep)
        ((go_at_call 51; refine (M.out _).mono ?_; rintro e w3 ⟨rfl, rfl⟩))
      rename_i hHeld
      clear hHeld u0 u1 u2 u3 M
      go_wp2_with fail
      go_roundw
      case rel => exact ⟨k + 1, by omega, by go_num, ho4', Lib.hid hb4.out.drew⟩
      case measure => (simp [intOf]; try omega)
    · obtain rfl : k = cl := by omega
      rw [mixR_all (by rw [scaleL_length]; exact hcl.out) hcl.out] at hrow
      have J4 := hon.out.gat J3.out (by have := hn2'.out; omega)
      obtain ⟨e0, e1, f0, f1⟩ := J4.see
      obtain ⟨h0, h1, -, -⟩ := (J4.set (.slice A sl c) (.slice (some ⟨g, 0, none⟩) k c')).see
      have hw1 : w.heap.size + 1 < w1.heap.size := hn2'.out
      have P : NewT w sl ss k (scaleL cs y) (.agg #[.slice A sl c, .slice (some ⟨g, 0, none⟩) k c']) ((wr.setCell ⟨w.heap.size + 1, 0, none⟩ (.slice A sl c)).setCell ⟨w.heap.size + 1, 1, none⟩ (.slice (some ⟨g, 0, none⟩) k c')) := by
        refine ⟨A, c, _, c', rfl, Joins.ownsRow_le (row_far (row_far (hon.out.row r1.out hA.out) ?_) ?_) (by omega), Joins.ownsRow_le (row_far (row_far hrow.out ?_) ?_) (by omega), ?_, ?_⟩
        · exact hw1
        · exact hw1
        · exact hw1
        · exact hw1
        · rintro p q rfl hq
          cases hq
          exact hA.out p.block rfl
        · exact ((hon.out.below zz.out (by omega)).setCell (Nat.le_add_right _ _) _).setCell (Nat.le_add_right _ _) _
      have P' := Lib.hid P
      clear P J4 hw1 JL
      go_wp2_with fail
      refine bodyPost_ret (v := .tuple #[.agg #[.slice A sl c, .slice (some ⟨g, 0, none⟩) k c'], .int .i64 0]) ?_ rfl ⟨_, rfl, P'.out⟩
      simp [results, Try.results31, go_sem, h0, h1]
end Go.Proofs.Ytjphdkbhkkpeoaa
