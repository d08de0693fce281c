/-
  The contract of package point's Go.
-/
import Derived.Test.YtilocmdanjekhaaPtC
import Derived.Test.YtilocmdanjekhaaOnly
import Derived.Test.YtilocmdanjekhaaTenC
namespace Go.Proofs.Ytilocmdanjekhaa
open Go.RowKit
set_option linter.unusedVariables false
set_option linter.unusedSimpArgs false

theorem rightT_pos5 {ss : List Int} {n : Nat} (h : rightT ss n = true) : 0 < n := by
  obtain ⟨h1, h2⟩ := rightT_parts h
  have := prodI_pos (rightS_parts h1).2.2.1
  omega
theorem rightT_side {ss : List Int} {n : Nat} (h : rightT ss n = true) : ss.length ≤ 4 := (rightS_parts (rightT_parts h).1).2.1
/-- What goes for good inputs. -/
theorem fault_good {kind : Int} {ts : List TV} (h : faultE kind ts = 0) : ¬ insN kind = 0 ∧ (ts.length : Int) = insN kind ∧ okTs ts = true := by
  unfold faultE at h
  by_cases h1 : insN kind = 0
  · rw [if_pos h1] at h; omega
  · rw [if_neg h1] at h
    by_cases h2 : (ts.length : Int) = insN kind
    · rw [if_pos h2] at h
      by_cases h3 : okTs ts = true
      · exact ⟨h1, h2, h3⟩
      · rw [if_neg h3] at h; omega
    · rw [if_neg h2] at h; omega
theorem okTs_at {ts : List TV} (h : okTs ts = true) {j : Nat} {t : TV} (ht : ts[j]? = some t) : rightT t.ss t.cl = true ∧ t.ss = shape0 ts := by
  have h1 := List.all_eq_true.1 h t (List.mem_of_getElem? ht)
  unfold okT at h1
  rw [Bool.and_eq_true] at h1
  exact ⟨h1.1, by simpa [sameL] using h1.2⟩
theorem okTs_len {ts : List TV} (h : okTs ts = true) {j : Nat} {t t0 : TV} (h0 : ts[0]? = some t0) (ht : ts[j]? = some t) : t.cl = t0.cl := by
  obtain ⟨a1, a2⟩ := okTs_at h h0
  obtain ⟨b1, b2⟩ := okTs_at h ht
  have := (rightT_parts a1).2
  have := (rightT_parts b1).2
  rw [a2] at *
  rw [b2] at *
  omega

/-- The output's cells. -/
def goL (kind k : Int) (cs : List Int) (ts : List TV) : List Int := cs.mapIdx fun j x => pcell kind k x (otherN ts j)
theorem goL_length (kind k : Int) (cs : List Int) (ts : List TV) : (goL kind k cs ts).length = cs.length := by simp [goL]
theorem goL_get {kind k : Int} {cs : List Int} {ts : List TV} {j : Nat} (h : j < cs.length) : (goL kind k cs ts).getD j 0 = pcell kind k (cs.getD j 0) (otherN ts j) := by
  simp [goL, List.getD, List.getElem?_eq_getElem h]
theorem goL_fits {kind k : Int} {cs : List Int} {ts : List TV} (h : Fits cs) : Fits (goL kind k cs ts) := by
  intro n hn
  unfold goL at hn
  obtain ⟨j, hj, rfl⟩ := List.mem_mapIdx.1 hn
  exact pcell_bounds (h _ (List.getElem_mem _)).1 (h _ (List.getElem_mem _)).2
theorem otherN_bounds {w : World} {a : Option Addr} {len : Nat} {ts : List TV} (h : GsAt w a len ts) (j : Nat) : -9223372036854775808 ≤ otherN ts j ∧ otherN ts j ≤ 9223372036854775807 := by
  unfold otherN
  cases e : ts[1]? with
  | none => simp
  | some t => exact (h.2.2.1 t (List.mem_of_getElem? e)).2.1.2.2.1.getD j

set_option maxHeartbeats 1000000 in
theorem pgo_no (kind k : Int) (a : Option Addr) (len cap : Nat) (ts : List TV) (w : World) (h : GsAt w a len ts) (hE : ¬ faultE kind ts = 0) :
    Calls Try.prog 9 #[.int .i64 kind, .int .i64 k, .slice a len cap] w (NilT w (faultE kind ts)) := by
  obtain ⟨wB, hwB, J2, z, n2⟩ := grid_box w (.slice none 0 0) (.slice none 0 0)
  have C := fault_any kind a len cap ts wB (h.kept z.out)
  obtain ⟨x, hx⟩ : ∃ x, faultE kind ts = x := ⟨_, rfl⟩
  rw [hx] at C hE ⊢
  have C1 := Lib.hid C
  clear h C hx
  go_enter Try.func9, Try.ntmps9
  go_upto_region 1 with (fail)
  rw [hwB.out]
  go_wp2_with fail
  refine C1.out.mono ?_
  rintro e w1 ⟨rfl, hb1⟩
  obtain ⟨e0, e1, f0, f1⟩ := (J2.out.kept hb1).see
  obtain ⟨h0, h1, -, -⟩ := ((J2.out.kept hb1).set (.slice none 0 0) (.slice none 0 0)).see
  have Z : Below w.heap.size w ((w1.setCell ⟨w.heap.size, 0, none⟩ (.slice none 0 0)).setCell ⟨w.heap.size, 1, none⟩ (.slice none 0 0)) :=
    ((z.out.trans (hb1.mono z.out.size)).setCell (Nat.le_refl _) _).setCell (Nat.le_refl _) _
  go_wp2_with fail
  refine bodyPost_ret (v := .tuple #[.agg #[.slice none 0 0, .slice none 0 0], .int .i64 x]) ?_ rfl ⟨rfl, Z⟩
  simp [results, Try.results9, go_sem, h0, h1]

set_option maxHeartbeats 2000000 in
theorem pgo_ok (kind k : Int) (a : Option Addr) (len cap : Nat) (ts : List TV) (w : World) (h : GsAt w a len ts) (hE : faultE kind ts = 0) (t0 : TV) (ht0 : ts[0]? = some t0) (hcl : t0.cl ≤ 1000)
    (hk1 : -9223372036854775808 ≤ k) (hk2 : k ≤ 9223372036854775807) :
    Calls Try.prog 9 #[.int .i64 kind, .int .i64 k, .slice a len cap] w (OkT w t0.sl t0.ss t0.cl (goL kind k t0.cs ts)) := by
  obtain ⟨wB, hwB, J2, z, n2⟩ := grid_box w (.slice none 0 0) (.slice none 0 0)
  have C := fault_any kind a len cap ts wB (h.kept z.out)
  obtain ⟨g1, g2, g3⟩ := fault_good hE
  obtain ⟨r1, r2⟩ := okTs_at g3 ht0
  have hcl0 := rightT_pos5 r1
  have h0 : 0 < len := by
    have := h.1
    have := (List.getElem?_eq_some_iff.1 ht0).1
    omega
  rw [hE] at C
  have C1 := Lib.hid C
  obtain ⟨t, b, off, ht, rfl, c0, c1, hAt⟩ := h.at h0
  obtain rfl : t = t0 := by rw [ht] at ht0; exact Option.some.inj ht0
  have hsl : t.sl ≤ 1000 := by have := hAt.1.1; have := rightT_side r1; omega
  have D := Lib.hid (fun w1 (hb : Below w.heap.size w w1) => tcopy_any t.sa t.sl t.sc t.ss t.ca t.cl t.cc t.cs w1 (hAt.1.kept hb) hsl (hAt.2.1.kept hb) hcl)
  have HC := Lib.hid (fun j (hj : j < t.cl) w1 (hb : Below w.heap.size w w1) => cells_any (some ⟨b, off, none⟩) len cap ts j w1 (h.kept hb) h0 t ht0 hj (fun u hu => by rw [okTs_len g3 ht0 hu]; exact hj))
  have HB := Lib.hid (fun j => otherN_bounds h j)
  have c0' := Lib.hid (fun w1 (hb : Below w.heap.size w w1) => cell_later hb c0)
  have c1' := Lib.hid (fun w1 (hb : Below w.heap.size w w1) => cell_later hb c1)
  simp only [Nat.zero_mul, Nat.add_zero] at c0' c1'
  have hfit := Lib.hid hAt.2.1.2.2.1
  have hlen := Lib.hid hAt.2.1.1
  have hk := Lib.hid (And.intro hk1 hk2)
  have hp0 : ¬ len = 0 := by omega
  clear h C hE g1 g2 g3 r1 r2 ht ht0 c0 c1 hAt hk1 hk2
  go_enter Try.func9, Try.ntmps9
  go_upto_region 1 with (fail)
  rw [hwB.out]
  go_wp2_with fail
  refine C1.out.mono ?_
  rintro e w1 ⟨rfl, hb1⟩
  have b1 := Lib.hid (z.out.trans (hb1.mono z.out.size))
  have k0 := c0'.out w1 b1.out
  have k1 := c1'.out w1 b1.out
  go_wp2_with fail
  refine (D.out w1 b1.out).mono ?_
  rintro e w2 ⟨v', rfl, A, c, A', c', rfl, ho1, ho2, hne, hb2⟩
  obtain ⟨g, c2, hv⟩ := Joins.ownsRow_form ho2 (by omega)
  simp only [Value.slice.injEq] at hv
  obtain ⟨rfl, -, rfl⟩ := hv
  obtain ⟨g1, g2⟩ := ho2.lt g rfl
  obtain ⟨wC, hwC, JC, zC, nC⟩ := grid_box w2 (.slice A t.sl c) (.slice (some ⟨g, 0, none⟩) t.cl c')
  have hb12 := hb1.trans (hb2.mono hb1.size)
  have J3 := Lib.hid (J2.out.kept (hb12.trans (zC.out.mono hb12.size)))
  have hn2 : w.heap.size < w1.heap.size := by have := n2.out; have := hb1.size; omega
  have hA := Lib.hid (fun q (hq : (Value.slice A t.sl c).ownBlock = some q) => (by
    cases A with
    | none => cases hq
    | some p => cases hq; exact hne p _ rfl rfl : q ≠ g))
  have r1 := Lib.hid (row_kept ho1 zC.out)
  have r2 := Lib.hid (show wC.ownsRow w1.heap.size 22 1 (.slice (some ⟨g, 0, none⟩) t.cl c') t.cl ((mixR (goL kind k t.cs ts) t.cs 0).map (Value.int .i64)) by rw [mixR_zero]; exact row_kept ho2 zC.out)
  have zz := Lib.hid (b1.out.trans ((hb2.trans (zC.out.mono hb2.size)).mono b1.out.size))
  have hn2' := Lib.hid hn2
  clear ho1 ho2 hne hb12 k0 k1 D C1 hn2
  go_upto_region 5 with (fail)
  rw [hwC.out]
  obtain ⟨c0, c1, -, -⟩ := JC.out.see
  go_wp2_with fail
  obtain ⟨y, hy⟩ : ∃ y, t.cl = y := ⟨_, rfl⟩
  rw [hy] at hlen hcl hcl0 HC r2 c1 JC hwC ⊢
  go_loopw [27] (fun i wr => ∃ j : Nat, j ≤ y ∧ i = .int .i64 j ∧ Hid (wr.ownsRow w1.heap.size 22 1 (.slice (some ⟨g, 0, none⟩) y c') y ((mixR (goL kind k t.cs ts) t.cs j).map (Value.int .i64))) ∧ Hid (Only g wC wr)) (fun i _ => y - (intOf i).toNat)
  case atStart => exact ⟨0, Nat.zero_le _, rfl, r2, Lib.hid (Only.refl _ _)⟩
  case round =>
    obtain ⟨j, hj, rfl, hrow, hon⟩ := hrel
    have JL := hon.out.gat JC.out (by omega)
    obtain ⟨l0, l1, -, -⟩ := JL.see
    by_cases hlt : j < y
    · have CE := HC.out j hlt wr (hon.out.below zz.out (by have := hn2'.out; omega))
      obtain ⟨x, hx⟩ : ∃ x, t.cs.getD j 0 = x := ⟨_, rfl⟩
      obtain ⟨u, hu⟩ : ∃ u, otherN ts j = u := ⟨_, rfl⟩
      have hcell : wr.cell? ⟨g, j, none⟩ = some (.int .i64 x) := by
        have e : wr.cell? ⟨g, j, none⟩ = ((mixR (goL kind k t.cs ts) t.cs j).map (Value.int .i64))[j]? := hrow.out.cellAt j (by omega)
        rw [List.getElem?_map, mixR_get (goL_length kind k t.cs ts) (by rw [hlen.out]; exact hlt), hx] at e
        exact e
      have hf := hrow.out.frozenAt j
      obtain ⟨x1, x2⟩ := hfit.out.getD j
      obtain ⟨u1, u2⟩ := HB.out j
      rw [hx] at x1 x2 CE
      rw [hu] at u1 u2 CE
      have CE' := Lib.hid CE
      have M := Lib.hid (fun w => Go.Proofs.Ytilocmdanjekhaa.cell_any kind k x u w hk.out.1 hk.out.2 x1 x2 u1 u2)
      have hm : (goL kind k t.cs ts).getD j 0 = pcell kind k x u := by rw [goL_get (by rw [hlen.out]; exact hlt), hx, hu]
      obtain ⟨m, hmm⟩ : ∃ m, pcell kind k x u = m := ⟨_, rfl⟩
      rw [hmm] at M hm
      obtain ⟨ho4, hg4⟩ := hrow.out.stored j (.int .i64 m)
      rw [← hm, ← List.map_set, mixR_set (goL_length kind k t.cs ts) (by rw [hlen.out]; exact hlt), hm] at ho4
      have ho4' := Lib.hid ho4
      have hb4 := Lib.hid (hon.out.setCell j (.int .i64 m))
      have u3 : (wr.setCell ⟨g, j, none⟩ (.int .i64 m)).drew.cell? ⟨w2.heap.size, 1, none⟩ = some (.slice (some ⟨g, 0, none⟩) y c') := (JL.other (p := ⟨g, j, none⟩) (.int .i64 m) (by simp; omega)).see.2.1
      clear ho4 hg4 hm hmm hx hu JL x1 x2 u1 u2 CE
      go_wp2_with fail
      refine CE'.out.mono ?_
      rintro e w3 ⟨rfl, rfl⟩
      go_wp2_with fail
      have u0 : wr.drew.cell? ⟨w2.heap.size, 1, none⟩ = some (.slice (some ⟨g, 0, none⟩) y c') := l1
      have u1 : wr.drew.cell? ⟨g, j, none⟩ = some (.int .i64 x) := hcell
      have u2 : wr.drew.frozen? ⟨g, j, none⟩ = false := hf
      go_region_held3 (fun w' => w'.cell? ⟨w2.heap.size, 1, none⟩ = some (.slice (some ⟨g, 0, none⟩) y c'))
        (first | exact u0 | exact l1 | exact u3 | go_keep)
        ((go_at_call 19; refine (M.out _).mono ?_; rintro e w3 ⟨rfl, rfl⟩))
      rename_i hHeld
      clear hHeld u0 u1 u2 u3 M
      go_wp2_with fail
      go_roundw
      case rel => exact ⟨j + 1, by omega, by go_num, ho4', Lib.hid hb4.out.drew⟩
      case measure => (simp [intOf]; try omega)
    · obtain rfl : j = y := by omega
      rw [mixR_all (by rw [goL_length]; exact hlen.out) hlen.out] at hrow
      have J4 := hon.out.gat J3.out (by have := hn2'.out; omega)
      obtain ⟨e0, e1, f0, f1⟩ := J4.see
      obtain ⟨h0, h1, -, -⟩ := (J4.set (.slice A t.sl c) (.slice (some ⟨g, 0, none⟩) j c')).see
      have hw1 : w.heap.size < w1.heap.size := hn2'.out
      have P : NewT w t.sl t.ss j (goL kind k t.cs ts) (.agg #[.slice A t.sl c, .slice (some ⟨g, 0, none⟩) j c']) ((wr.setCell ⟨w.heap.size, 0, none⟩ (.slice A t.sl c)).setCell ⟨w.heap.size, 1, none⟩ (.slice (some ⟨g, 0, none⟩) j c')) := by
        refine ⟨A, c, _, c', rfl, Joins.ownsRow_le (row_far (row_far (hon.out.row r1.out hA.out) ?_) ?_) (by omega), Joins.ownsRow_le (row_far (row_far hrow.out ?_) ?_) (by omega), ?_, ?_⟩
        · exact hw1
        · exact hw1
        · exact hw1
        · exact hw1
        · rintro p q rfl hq
          cases hq
          exact hA.out p.block rfl
        · exact ((hon.out.below zz.out (by omega)).setCell (Nat.le_refl _) _).setCell (Nat.le_refl _) _
      have P' := Lib.hid P
      clear P J4 hw1 JL
      go_wp2_with fail
      refine bodyPost_ret (v := .tuple #[.agg #[.slice A t.sl c, .slice (some ⟨g, 0, none⟩) j c'], .int .i64 0]) ?_ rfl ⟨_, rfl, by rw [hy]; exact P'.out⟩
      simp [results, Try.results9, go_sem, h0, h1]
end Go.Proofs.Ytilocmdanjekhaa
