/-
  Contracts of package tensor: Add.
-/
import Derived.Test.YtlpecdfiagklpaaTenF
import Derived.Deep.RegionWith
namespace Go.Proofs.Ytlpecdfiagklpaa
open Go.RowKit
set_option linter.unusedVariables false
set_option linter.unusedSimpArgs false

set_option maxHeartbeats 1000000 in
theorem tadd_no (sa : Option Addr) (sl sc : Nat) (ss : List Int) (ca : Option Addr) (cl cc : Nat) (sa2 : Option Addr) (sl2 sc2 : Nat) (ss2 : List Int) (ca2 : Option Addr) (cl2 cc2 : Nat) (w : World) (h : IntsAt w sa sl ss) (hl : cl ≤ 9223372036854775807) (h2 : IntsAt w sa2 sl2 ss2) (hl2 : cl2 ≤ 9223372036854775807) (hr : alikeT ss cl ss2 cl2 = false) :
    Calls Try.prog 40 #[.agg #[.slice sa sl sc, .slice ca cl cc], .agg #[.slice sa2 sl2 sc2, .slice ca2 cl2 cc2]] w (NilT w 20) := by
  obtain ⟨wA, hwA, J1, z1, n1⟩ := grid_box w (.slice sa sl sc) (.slice ca cl cc)
  obtain ⟨wA2, hwA2, J1b, z1b, n1b⟩ := grid_box wA (.slice sa2 sl2 sc2) (.slice ca2 cl2 cc2)
  obtain ⟨wB, hwB, J2, z2, n2⟩ := grid_box wA2 (.slice none 0 0) (.slice none 0 0)
  rw [n1.out] at J1b
  rw [n1b.out, n1.out] at J2
  have z12 := z1.out.trans (z1b.out.mono z1.out.size)
  have z := Lib.hid (z12.trans (z2.out.mono z12.size))
  have J := Lib.hid ((J1.out.kept z1b.out).kept z2.out)
  have Jb := Lib.hid (J1b.out.kept z2.out)
  have C := alike_any sa sl sc ss ca cl cc sa2 sl2 sc2 ss2 ca2 cl2 cc2 wB (h.kept z.out) hl (h2.kept z.out) hl2
  rw [hr] at C
  have C1 := Lib.hid C
  clear h h2 J1 J1b C hr z12
  obtain ⟨j0, j1, -, -⟩ := J.out.see
  obtain ⟨i0, i1, -, -⟩ := Jb.out.see
  go_enter Try.func40, Try.ntmps40
  go_upto_region 1 with (fail)
  rw [hwA.out, hwA2.out, hwB.out]
  go_wp2_with fail
  refine C1.out.mono ?_
  rintro e w1 ⟨rfl, hb1⟩
  obtain ⟨e0, e1, f0, f1⟩ := (J2.out.kept hb1).see
  obtain ⟨h0, h1, -, -⟩ := ((J2.out.kept hb1).set (.slice none 0 0) (.slice none 0 0)).see
  have Z : Below w.heap.size w ((w1.setCell ⟨w.heap.size + 1 + 1, 0, none⟩ (.slice none 0 0)).setCell ⟨w.heap.size + 1 + 1, 1, none⟩ (.slice none 0 0)) :=
    ((z.out.trans (hb1.mono z.out.size)).setCell (show w.heap.size ≤ w.heap.size + 1 + 1 by omega) _).setCell (show w.heap.size ≤ w.heap.size + 1 + 1 by omega) _
  go_wp2_with fail
  refine bodyPost_ret (v := .tuple #[.agg #[.slice none 0 0, .slice none 0 0], .int .i64 20]) ?_ rfl ⟨rfl, Z⟩
  simp [results, Try.results40, go_sem, h0, h1]

set_option maxHeartbeats 2000000 in
theorem tadd_ok (sa : Option Addr) (sl sc : Nat) (ss : List Int) (ca : Option Addr) (cl cc : Nat) (cs : List Int) (sa2 : Option Addr) (sl2 sc2 : Nat) (ss2 : List Int) (ca2 : Option Addr) (cc2 : Nat) (ds : List Int) (w : World) (h : IntsAt w sa sl ss) (hs : sl ≤ 1000) (hc : IntsAt w ca cl cs) (hl : cl ≤ 1000)
    (h2 : IntsAt w sa2 sl2 ss2) (hd : IntsAt w ca2 cl ds) (hr : alikeT ss cl ss2 cl = true) (hl0 : 0 < cl) :
    Calls Try.prog 40 #[.agg #[.slice sa sl sc, .slice ca cl cc], .agg #[.slice sa2 sl2 sc2, .slice ca2 cl cc2]] w (OkT w sl ss cl (addL cs ds)) := by
  obtain ⟨wA, hwA, J1, z1, n1⟩ := grid_box w (.slice sa sl sc) (.slice ca cl cc)
  obtain ⟨wA2, hwA2, J1b, z1b, n1b⟩ := grid_box wA (.slice sa2 sl2 sc2) (.slice ca2 cl cc2)
  obtain ⟨wB, hwB, J2, z2, n2⟩ := grid_box wA2 (.slice none 0 0) (.slice none 0 0)
  rw [n1.out] at J1b
  rw [n1b.out, n1.out] at J2
  have z12 := z1.out.trans (z1b.out.mono z1.out.size)
  have z := Lib.hid (z12.trans (z2.out.mono z12.size))
  have J := Lib.hid ((J1.out.kept z1b.out).kept z2.out)
  have Jb := Lib.hid (J1b.out.kept z2.out)
  have C := alike_any sa sl sc ss ca cl cc sa2 sl2 sc2 ss2 ca2 cl cc2 wB (h.kept z.out) (by omega) (h2.kept z.out) (by omega)
  rw [hr] at C
  have C1 := Lib.hid C
  have D := Lib.hid (fun w1 (hb : Below wB.heap.size wB w1) => tcopy_any sa sl sc ss ca cl cc cs w1 ((h.kept z.out).kept hb) hs ((hc.kept z.out).kept hb) hl)
  have hfit := Lib.hid hc.2.2.1
  have hcl := Lib.hid hc.1
  have hfit2 := Lib.hid hd.2.2.1
  have hdl := Lib.hid hd.1
  have hlen := Lib.hid (hc.1.trans hd.1.symm)
  obtain ⟨b, off, rfl, hcb⟩ : ∃ b off, ca2 = some ⟨b, off, none⟩ ∧ ∀ j, j < cl → wB.cell? ⟨b, off + j, none⟩ = some (.int .i64 (ds.getD j 0)) := by
    rcases (hd.kept z.out).2.2.2 with h4 | ⟨b, off, ha, hcc⟩
    · omega
    · exact ⟨b, off, ha, hcc⟩
  have HD := Lib.hid (fun k (hk : k < cl) w1 (hb : Below wB.heap.size wB w1) => cell_later hb (hcb k hk))
  clear h hc h2 hd hcb J1 J1b C hr z12
  obtain ⟨j0, j1, -, -⟩ := J.out.see
  obtain ⟨i0, i1, -, -⟩ := Jb.out.see
  go_enter Try.func40, Try.ntmps40
  go_upto_region 1 with (fail)
  rw [hwA.out, hwA2.out, hwB.out]
  go_wp2_with fail
  refine C1.out.mono ?_
  rintro e w1 ⟨rfl, hb1⟩
  obtain ⟨k0, k1, -, -⟩ := (J.out.kept hb1).see
  go_wp2_with fail
  refine (D.out w1 hb1).mono ?_
  rintro e w2 ⟨v', rfl, A, c, A', c', rfl, ho1, ho2, hne, hb2⟩
  obtain ⟨g, c2, hv⟩ := Joins.ownsRow_form ho2 (by omega)
  simp only [Value.slice.injEq] at hv
  obtain ⟨rfl, -, rfl⟩ := hv
  obtain ⟨g1, g2⟩ := ho2.lt g rfl
  obtain ⟨wC, hwC, JC, zC, nC⟩ := grid_box w2 (.slice A sl c) (.slice (some ⟨g, 0, none⟩) cl c')
  have hb12 := hb1.trans (hb2.mono hb1.size)
  have J3 := Lib.hid (J2.out.kept (hb12.trans (zC.out.mono hb12.size)))
  have hn2 : w.heap.size + 1 + 1 < w1.heap.size := by have := n1.out; have := n1b.out; have := n2.out; have := hb1.size; omega
  have hA := Lib.hid (fun q (hq : (Value.slice A sl c).ownBlock = some q) => (by
    cases A with
    | none => cases hq
    | some p => cases hq; exact hne p _ rfl rfl : q ≠ g))
  have r1 := Lib.hid (row_kept ho1 zC.out)
  have r2 := Lib.hid (show wC.ownsRow w1.heap.size 47 1 (.slice (some ⟨g, 0, none⟩) cl c') cl ((mixR (addL cs ds) cs 0).map (Value.int .i64)) by rw [mixR_zero]; exact row_kept ho2 zC.out)
  have zB := Lib.hid (hb12.trans (zC.out.mono hb12.size))
  have Jb3 := Lib.hid (Jb.out.kept zB.out)
  have zz := Lib.hid (z.out.trans ((hb12.trans (zC.out.mono hb12.size)).mono z.out.size))
  have hn2' := Lib.hid hn2
  clear ho1 ho2 hne hb12 k0 k1 D C1 hn2
  go_upto_region 4 with (fail)
  rw [hwC.out]
  obtain ⟨c0, c1, -, -⟩ := JC.out.see
  obtain ⟨m0, m1, -, -⟩ := Jb3.out.see
  go_wp2_with fail
  go_loopw [19] (fun i wr => ∃ k : Nat, k ≤ cl ∧ i = .int .i64 k ∧ Hid (wr.ownsRow w1.heap.size 47 1 (.slice (some ⟨g, 0, none⟩) cl c') cl ((mixR (addL cs ds) cs k).map (Value.int .i64))) ∧ Hid (Only g wC wr)) (fun i _ => cl - (intOf i).toNat)
  case atStart => exact ⟨0, Nat.zero_le _, rfl, r2, Lib.hid (Only.refl _ _)⟩
  case round =>
    obtain ⟨k, hk, rfl, hrow, hon⟩ := hrel
    have JL := hon.out.gat JC.out (by omega)
    obtain ⟨l0, l1, -, -⟩ := JL.see
    by_cases hlt : k < cl
    · obtain ⟨x, hx⟩ : ∃ x, cs.getD k 0 = x := ⟨_, rfl⟩
      have hcell : wr.cell? ⟨g, k, none⟩ = some (.int .i64 x) := by
        have e : wr.cell? ⟨g, k, none⟩ = ((mixR (addL cs ds) cs k).map (Value.int .i64))[k]? := hrow.out.cellAt k (by omega)
        rw [List.getElem?_map, mixR_get (addL_length hlen.out) (by rw [hcl.out]; exact hlt), hx] at e
        exact e
      have hf := hrow.out.frozenAt k
      obtain ⟨x1, x2⟩ := hfit.out.getD k
      rw [hx] at x1 x2
      obtain ⟨y, hy⟩ : ∃ y, ds.getD k 0 = y := ⟨_, rfl⟩
      have hcy := HD.out k hlt wr (hon.out.below zB.out (by have := hn2'.out; have := n1.out; have := n1b.out; have := n2.out; have := zB.out.size; omega))
      obtain ⟨y1, y2⟩ := hfit2.out.getD k
      rw [hy] at y1 y2 hcy
      have M := Lib.hid (fun w => add_any x y w x1 x2 y1 y2)
      have hm : (addL cs ds).getD k 0 = sat (x + y) := by rw [addL_get hlen.out (by rw [hcl.out]; exact hlt), hx, hy]
      obtain ⟨m, hmm⟩ : ∃ m, sat (x + y) = m := ⟨_, rfl⟩
      rw [hmm] at M hm
      obtain ⟨ho4, hg4⟩ := hrow.out.stored k (.int .i64 m)
      rw [← hm, ← List.map_set, mixR_set (addL_length hlen.out) (by rw [hcl.out]; exact hlt), hm] at ho4
      have ho4' := Lib.hid ho4
      have hb4 := Lib.hid (hon.out.setCell k (.int .i64 m))
      have u3 : (wr.setCell ⟨g, k, none⟩ (.int .i64 m)).drew.cell? ⟨w2.heap.size, 1, none⟩ = some (.slice (some ⟨g, 0, none⟩) cl c') := (JL.other (p := ⟨g, k, none⟩) (.int .i64 m) (by simp; omega)).see.2.1
      clear ho4 hg4 hm hmm hx JL x1 x2 hy y1 y2
      go_wp2_with fail
      have u0 : wr.drew.cell? ⟨w2.heap.size, 1, none⟩ = some (.slice (some ⟨g, 0, none⟩) cl c') := l1
      have u1 : wr.drew.cell? ⟨g, k, none⟩ = some (.int .i64 x) := hcell
      have u2 : wr.drew.frozen? ⟨g, k, none⟩ = false := hf
      clear u3
      go_region_with (go_at_call 31; refine (M.out _).mono ?_; rintro e w3 ⟨rfl, rfl⟩)
      all_goals
        clear u0 u1 u2 M
        go_wp2_with fail
        go_roundw
        · exact ⟨k + 1, by omega, by go_num, ho4', Lib.hid hb4.out.drew⟩
        · (simp [intOf]; try omega)
    · obtain rfl : k = cl := by omega
      rw [mixR_all (by rw [addL_length hlen.out]; exact hcl.out) hcl.out] at hrow
      have J4 := hon.out.gat J3.out (by have := hn2'.out; omega)
      obtain ⟨e0, e1, f0, f1⟩ := J4.see
      obtain ⟨h0, h1, -, -⟩ := (J4.set (.slice A sl c) (.slice (some ⟨g, 0, none⟩) k c')).see
      have hw1 : w.heap.size + 1 + 1 < w1.heap.size := hn2'.out
      have P : NewT w sl ss k (addL cs ds) (.agg #[.slice A sl c, .slice (some ⟨g, 0, none⟩) k c']) ((wr.setCell ⟨w.heap.size + 1 + 1, 0, none⟩ (.slice A sl c)).setCell ⟨w.heap.size + 1 + 1, 1, none⟩ (.slice (some ⟨g, 0, none⟩) k c')) := by
        refine ⟨A, c, _, c', rfl, Joins.ownsRow_le (row_far (row_far (hon.out.row r1.out hA.out) ?_) ?_) (by omega), Joins.ownsRow_le (row_far (row_far hrow.out ?_) ?_) (by omega), ?_, ?_⟩
        · exact hw1
        · exact hw1
        · exact hw1
        · exact hw1
        · rintro p q rfl hq
          cases hq
          exact hA.out p.block rfl
        · exact ((hon.out.below zz.out (by omega)).setCell (show w.heap.size ≤ w.heap.size + 1 + 1 by omega) _).setCell (show w.heap.size ≤ w.heap.size + 1 + 1 by omega) _
      have P' := Lib.hid P
      clear P J4 hw1 JL
      go_wp2_with fail
      refine bodyPost_ret (v := .tuple #[.agg #[.slice A sl c, .slice (some ⟨g, 0, none⟩) k c'], .int .i64 0]) ?_ rfl ⟨_, rfl, P'.out⟩
      simp [results, Try.results40, go_sem, h0, h1]
end Go.Proofs.Ytlpecdfiagklpaa
