import Derived.Test.YtdimpgojamhakaaJ01
import Derived.Test.YtdimpgojamhakaaJ02
import Derived.Test.YtdimpgojamhakaaJ04
import Derived.Deep.DeepCutAuto
import Derived.Deep.CutBlock
/-
  Two new slices of integers, one behind the other.
-/
namespace Go.Proofs.Ytdimpgojamhakaa
open Go.RowKit
set_option linter.unusedVariables false
set_option linter.unusedSimpArgs false

/-- Two new slices of integers, one behind the other. -/
theorem rows_made5 (W : World) (t t' : TypeId) (xs ys : List Int) (n m : Nat) (hn : xs.length = n) (hm : ys.length = m) (h1 : n ≤ 1000) (h2 : m ≤ 1000) (f1 : Fits xs) (f2 : Fits ys) :
    ∃ W2, Hid ((W.alloc (.cells (xs.map (Value.int .i64)).toArray t)).alloc (.cells (ys.map (Value.int .i64)).toArray t') = W2) ∧ Hid (IntsAt W2 (some ⟨W.heap.size, 0, none⟩) n xs) ∧ Hid (IntsAt W2 (some ⟨W.heap.size + 1, 0, none⟩) m ys) ∧ Hid (Below W.heap.size W W2) := by
  refine ⟨_, Lib.hid rfl, Lib.hid ((IntsAt.made W t xs n hn (by omega) f1).kept ((Below.refl _ _).alloc (Nat.le_refl _) _)), Lib.hid ?_, Lib.hid (((Below.refl _ _).alloc (Nat.le_refl _) _).alloc (by simp) _)⟩
  have := IntsAt.made (W.alloc (.cells (xs.map (Value.int .i64)).toArray t)) t' ys m hm (by omega) f2
  simpa using this
theorem fits_few {l : List Int} (h : allR (-100) 100 l = true) : Fits l := by
  intro n hn
  unfold allR at h
  rw [List.all_eq_true] at h
  have := inR_bounds (h n hn)
  omega
end Go.Proofs.Ytdimpgojamhakaa

/-
  The fixed answer of the statements of layer 8: the program gives it.
-/
namespace Go.Proofs.Ytdimpgojamhakaa
open Go.RowKit
set_option linter.unusedVariables false
set_option linter.unusedSimpArgs false

theorem awakeN : PoolN [3] 2 1 3 2 1 2 1 :=
  ⟨by decide +kernel, by decide +kernel, by decide +kernel, by decide, by decide, by decide, by decide, by decide, by decide, by decide +kernel, by decide +kernel, by decide, by decide, by decide, by decide +kernel, by decide, by decide +kernel, by decide +kernel, by decide⟩

set_option maxRecDepth 100000 in
set_option maxHeartbeats 8000000 in
theorem awake08_any (w : World) :
    Calls Try.prog 9 #[] w fun e w' => e = .returned (.bool true) ∧ Below w.heap.size w w' := by
  have v1 : Hid (rightT [3] 3 = true ∧ rightT [2] 2 = true ∧ kindE 1 [3] 3 2 1 = 0 ∧ kindE 3 [3] 3 2 1 = 21) := by show _ ∧ _ ∧ _ ∧ _; decide +kernel
  have v2 : Hid (psS [3] 2 1 = [2]) := by show _ = _; decide +kernel
  have v4 : Hid (goL 1 [1, 3, 2] 2 (winsL 3 1 2 1) = [3, 3]) := by show _ = _; decide +kernel
  have v5 : Hid (backRows 1 [1, 3, 2] [5, 7] 3 2 1 2 1 = [0, 12, 0]) := by show _ = _; decide +kernel
  have v6 : Hid (bestI [2, 9, 9] 3 = 1) := by show _ = _; decide +kernel
  have v7 : Hid (sameL [2] [2] = true) := by show _ = _; decide +kernel
  have f3 : Hid (Fits [3]) := Lib.hid (fits_few (by decide +kernel))
  have f2 : Hid (Fits [2]) := Lib.hid (fits_few (by decide +kernel))
  have f132 : Hid (Fits [1, 3, 2]) := Lib.hid (fits_few (by decide +kernel))
  have f57 : Hid (Fits [5, 7]) := Lib.hid (fits_few (by decide +kernel))
  have f299 : Hid (Fits [2, 9, 9]) := Lib.hid (fits_few (by decide +kernel))
  obtain ⟨w0, hw0, s0, c0, z0⟩ := rows_made5 w 3 49 [3] [1, 3, 2] 1 3 rfl rfl (by omega) (by omega) f3.out f132.out
  go_enter Try.func9, Try.ntmps9
  go_wp2_with fail
  have hw0' := hw0.out
  simp only [List.map_cons, List.map_nil] at hw0'
  rw [hw0']
  clear hw0'
  refine (of_ok _ 1 1 [3] _ 3 3 [1, 3, 2] w0 s0.out (by omega) c0.out (by omega) v1.out.1).mono ?_
  rintro e w1 ⟨v', rfl, A1, k1, A2, k2, rfl, o1, o2, -, hb1⟩
  obtain ⟨g2, k2', hv⟩ := Joins.ownsRow_form o2 (by omega)
  simp only [Value.slice.injEq] at hv
  obtain ⟨rfl, -, rfl⟩ := hv
  have hcap := row_caps o2
  have TW := Lib.hid (show TV.At ⟨A1, 1, k1, [3], some ⟨g2, 0, none⟩, 3, k2, [1, 3, 2]⟩ w1 from ⟨row_ints o1 (show 1 ≤ 9223372036854775807 by omega) f3.out, row_ints o2 (show 3 ≤ 9223372036854775807 by omega) f132.out, by simp, by simp⟩)
  obtain ⟨u1, hu1, J1, x1, m1⟩ := grid_box w1 (.slice A1 1 k1) (.slice (some ⟨g2, 0, none⟩) 3 k2)
  have y0 := z0.out.trans (hb1.mono z0.out.size)
  have yA := Lib.hid (y0.trans (x1.out.mono y0.size))
  have TX1 := Lib.hid (TW.out.kept x1.out)
  have HCAP := Lib.hid hcap
  clear o1 o2 hb1 s0 c0 z0 hw0 TW y0 x1 hcap
  go_upto_region 2 with (fail)
  rw [hu1.out]
  obtain ⟨w2, hw2, s2, c2, z2⟩ := rows_made5 u1 3 49 [2] [5, 7] 1 2 rfl rfl (by omega) (by omega) f2.out f57.out
  have hw2' := hw2.out
  simp only [List.map_cons, List.map_nil] at hw2'
  go_wp2_with fail
  clear hw2'
  refine (of_ok _ 1 1 [2] _ 2 2 [5, 7] w2 s2.out (by omega) c2.out (by omega) v1.out.2.1).mono ?_
  rintro e w3 ⟨v', rfl, A3, k3, A4, k4, rfl, o1, o2, -, hb1⟩
  have TW := Lib.hid (show TV.At ⟨A3, 1, k3, [2], A4, 2, k4, [5, 7]⟩ w3 from ⟨row_ints o1 (show 1 ≤ 9223372036854775807 by omega) f2.out, row_ints o2 (show 2 ≤ 9223372036854775807 by omega) f57.out, by simp, by simp⟩)
  obtain ⟨u2, hu2, J2, x2, m2⟩ := grid_box w3 (.slice A3 1 k3) (.slice A4 2 k4)
  have y0 := z2.out.trans (hb1.mono z2.out.size)
  have y1 := Lib.hid (y0.trans (x2.out.mono y0.size))
  have yB := Lib.hid (yA.out.trans (y1.out.mono yA.out.size))
  have TX2 := Lib.hid (TX1.out.kept y1.out)
  have TG2 := Lib.hid (TW.out.kept x2.out)
  have K1 := Lib.hid (J1.out.kept y1.out)
  clear o1 o2 hb1 s2 c2 z2 hw2 TW y0 x2 yA y1 J1 TX1
  go_upto_region 3 with (fail)
  rw [hu2.out]
  obtain ⟨a0, a1, -, -⟩ := K1.out.see
  go_wp2_with fail
  clear a0 a1
  refine (pgo_ok 1 ⟨A1, 1, k1, [3], some ⟨g2, 0, none⟩, 3, k2, [1, 3, 2]⟩ 2 1 3 2 1 2 1 u2 TX2.out HCAP.out v1.out.2.2.1 awakeN).mono ?_
  rintro e w4 ⟨v', rfl, Y1, d1, Y2, d2, rfl, o1, o2, -, hb4⟩
  have o2' : w4.ownsRow u2.heap.size 49 1 (.slice Y2 2 d2) 2 ([3, 3].map (Value.int .i64)) := by rw [← v4.out]; exact o2
  obtain ⟨gy, d2', hv⟩ := Joins.ownsRow_form o2' (by omega)
  simp only [Value.slice.injEq] at hv
  obtain ⟨rfl, -, rfl⟩ := hv
  have hy0 : w4.cell? ⟨gy, 0, none⟩ = some (.int .i64 3) := o2'.cellAt 0 (by decide)
  have hy1 : w4.cell? ⟨gy, 1, none⟩ = some (.int .i64 3) := o2'.cellAt 1 (by decide)
  obtain ⟨u4, hu4, JY, x4, m4⟩ := grid_box w4 (.slice Y1 1 d1) (.slice (some ⟨gy, 0, none⟩) 2 d2)
  have q4 := Lib.hid (hb4.trans (x4.out.mono hb4.size))
  have yC := Lib.hid (yB.out.trans (q4.out.mono yB.out.size))
  have TX4 := Lib.hid (TX2.out.kept q4.out)
  have TG4 := Lib.hid (TG2.out.kept q4.out)
  have K1b := Lib.hid (K1.out.kept q4.out)
  have K2b := Lib.hid (J2.out.kept q4.out)
  have HY := Lib.hid (And.intro (cell_later x4.out hy0) (cell_later x4.out hy1))
  clear o1 o2 o2' hb4 x4 q4 TX2 TG2 K1 J2 yB hy0 hy1
  simp only [List.length_cons, List.length_nil, Nat.reduceAdd, Nat.reduceMul]
  go_upto_region 4 with (fail)
  rw [hu4.out]
  obtain ⟨a0, a1, -, -⟩ := K1b.out.see
  obtain ⟨c0, c1, -, -⟩ := K2b.out.see
  go_wp2_with fail
  clear a0 a1 c0 c1
  refine (pback_ok 1 ⟨A1, 1, k1, [3], some ⟨g2, 0, none⟩, 3, k2, [1, 3, 2]⟩ ⟨A3, 1, k3, [2], A4, 2, k4, [5, 7]⟩ 2 1 3 2 1 2 1 u4 TX4.out HCAP.out TG4.out v1.out.2.2.1 (by show gOk ⟨A3, 1, k3, [2], A4, 2, k4, [5, 7]⟩ (psS [3] 2 1) = true; rw [v2.out]; unfold gOk; simp only [v1.out.2.1, v7.out, Bool.and_self]) awakeN).mono ?_
  rintro e w5 ⟨v', rfl, G1, h1, G2, h2, rfl, o1, o2, -, hb5⟩
  have o2' : w5.ownsRow u4.heap.size 49 1 (.slice G2 3 h2) 3 ([0, 12, 0].map (Value.int .i64)) := by rw [← v5.out]; exact o2
  obtain ⟨gg, d2', hv⟩ := Joins.ownsRow_form o2' (by omega)
  simp only [Value.slice.injEq] at hv
  obtain ⟨rfl, -, rfl⟩ := hv
  have hb0 : w5.cell? ⟨gg, 0, none⟩ = some (.int .i64 0) := o2'.cellAt 0 (by decide)
  have hb1 : w5.cell? ⟨gg, 1, none⟩ = some (.int .i64 12) := o2'.cellAt 1 (by decide)
  obtain ⟨u5, hu5, JB, x5, m5⟩ := grid_box w5 (.slice G1 1 h1) (.slice (some ⟨gg, 0, none⟩) 3 h2)
  have q5 := Lib.hid (hb5.trans (x5.out.mono hb5.size))
  have yD := Lib.hid (yC.out.trans (q5.out.mono yC.out.size))
  have TX5 := Lib.hid (TX4.out.kept q5.out)
  have K1c := Lib.hid (K1b.out.kept q5.out)
  have KYc := Lib.hid (JY.out.kept q5.out)
  have HY5 := Lib.hid (And.intro (cell_later q5.out HY.out.1) (cell_later q5.out HY.out.2))
  have HB5 := Lib.hid (And.intro (cell_later x5.out hb0) (cell_later x5.out hb1))
  clear o1 o2 o2' hb5 x5 q5 TX4 TG4 K1b K2b JY yC HY hb0 hb1
  simp only [List.length_cons, List.length_nil, Nat.reduceAdd, Nat.reduceMul]
  go_upto_region 5 with (fail)
  rw [hu5.out]
  obtain ⟨a0, a1, -, -⟩ := K1c.out.see
  go_wp2_with fail
  clear a0 a1
  have NO := pgo_no 3 ⟨A1, 1, k1, [3], some ⟨g2, 0, none⟩, 3, k2, [1, 3, 2]⟩ 2 1 u5 TX5.out (by show kindE 3 [3] 3 2 1 ≠ 0; rw [v1.out.2.2.2]; decide)
  refine NO.mono ?_
  clear NO
  rintro e w6 hnil
  have hnil2 : NilT u5 21 e w6 := by rw [← v1.out.2.2.2]; exact hnil
  obtain ⟨rfl, hb6⟩ := hnil2
  obtain ⟨u6, hu6, JN, x6, m6⟩ := grid_box w6 (.slice none 0 0) (.slice none 0 0)
  have q6 := Lib.hid (hb6.trans (x6.out.mono hb6.size))
  have yE := Lib.hid (yD.out.trans (q6.out.mono yD.out.size))
  have KY := Lib.hid (KYc.out.kept q6.out)
  have KB := Lib.hid (JB.out.kept q6.out)
  have HY6 := Lib.hid (And.intro (cell_later q6.out HY5.out.1) (cell_later q6.out HY5.out.2))
  have HB6 := Lib.hid (And.intro (cell_later q6.out HB5.out.1) (cell_later q6.out HB5.out.2))
  clear hnil hb6 x6 q6 TX5 K1c KYc JB yD HY5 HB5 JN
  go_upto_region 6 with (fail)
  rw [hu6.out]
  obtain ⟨e0, e1, -, -⟩ := KY.out.see
  obtain ⟨l0, l1, -, -⟩ := KB.out.see
  obtain ⟨cy0, cy1⟩ := HY6.out
  obtain ⟨cb0, cb1⟩ := HB6.out
  obtain ⟨w9, hw9⟩ : ∃ w9, u6.alloc (.cells ([2, 9, 9].map (Value.int .i64)).toArray 49) = w9 := ⟨_, rfl⟩
  have I9 := IntsAt.made u6 49 [2, 9, 9] 3 rfl (by omega) f299.out
  rw [hw9] at I9
  have B9 : Below u6.heap.size u6 w9 := by rw [← hw9]; exact (Below.refl _ _).alloc (Nat.le_refl _) _
  have BE := pbest_any (some ⟨u6.heap.size, 0, none⟩) 3 3 [2, 9, 9] w9 I9
  rw [v6.out] at BE
  have BE1 := Lib.hid BE
  have P := Lib.hid (yE.out.trans (B9.mono yE.out.size))
  simp only [List.map_cons, List.map_nil] at hw9
  clear I9 B9 BE KY KB HY6 HB6 yE
  go_wp2_with fail
  clear hw9
  refine BE1.out.mono ?_
  rintro e w7 ⟨rfl, rfl⟩
  go_wp2_with fail
  go_ret
  exact ⟨rfl, P.out⟩
end Go.Proofs.Ytdimpgojamhakaa

/-
  The walks of the statements PoolShapes and PoolBest.
-/
namespace Go.Proofs.Ytdimpgojamhakaa
open Go.RowKit
set_option linter.unusedVariables false
set_option linter.unusedSimpArgs false

theorem psS_fits {xs : List Int} {wd st : Int} (h : psE xs wd st = 0) : Fits (psS xs wd st) := by
  obtain ⟨side, wn, s, nw, R, hp⟩ := pool_numbers h
  intro t ht
  have := allR_mem (rightS_parts hp.right).2.2.1 ht
  omega
theorem psE_len {xs : List Int} {wd st : Int} (h : psE xs wd st = 0) : 1 ≤ xs.length ∧ xs.length ≤ 4 := by
  have := rightS_parts (psE_parts h).1
  exact ⟨this.1, this.2.1⟩

set_option maxRecDepth 100000 in
set_option maxHeartbeats 4000000 in
theorem poolShapes_walk (x : TV) (wd st : Int) (w : World) (hx : x.At w ∧ x.CapS) (b1 : -9223372036854775808 ≤ wd) (c1 : wd ≤ 9223372036854775807) (b2 : -9223372036854775808 ≤ st) (c2 : st ≤ 9223372036854775807) :
    Calls Try.prog 3 #[.slice x.sa x.sl x.sc, .int .i64 wd, .int .i64 st] w fun e w' => e = .returned (.bool true) ∧ Below w.heap.size w w' := by
  have SH := fun w1 (hb : Below w.heap.size w w1) => poolshape_any x.sa x.sl x.sc x.ss wd st w1 (hx.1.1.kept hb)
  have TO := fun w1 (hb : Below w.heap.size w w1) => told8_any x.sa x.sl x.sc x.ss wd st w1 (hx.1.1.kept hb)
  have t0 := Lib.hid (Below.refl w.heap.size w)
  have hsl : x.sl ≤ 17592186044416 := hx.1.2.2.1
  by_cases h9 : 9 < x.sl
  · have hg : (9 : Int) < (x.sl : Int) := by omega
    clear SH TO hx
    go_enter Try.func3, Try.ntmps3
    go_wp2_with fail
    refine (awake08_any _).mono ?_
    rintro e w2 ⟨rfl, hb⟩
    go_wp2_with fail
    go_ret
    exact ⟨rfl, hb⟩
  have hg : ¬ (9 : Int) < (x.sl : Int) := by omega
  clear hx
  by_cases h0 : psE x.ss wd st = 0
  case neg =>
    replace SH := Lib.hid (fun w1 hb => (SH w1 hb).mono fun e w' h => h.2 h0)
    replace TO := Lib.hid (fun w1 hb => (TO w1 hb).mono fun e w' h => h.2 h0)
    obtain ⟨v, hv⟩ : ∃ v, psE x.ss wd st = v := ⟨_, rfl⟩
    rw [hv] at SH TO
    clear hv h0
    go_enter Try.func3, Try.ntmps3
    go_wp2_with fail
    refine (SH.out w t0.out).mono ?_
    rintro e w1 ⟨rfl, hb⟩
    have b1 := Lib.hid (t0.out.trans (hb.mono t0.out.size))
    clear hb SH
    go_wp2_with fail
    refine (TO.out w1 b1.out).mono ?_
    rintro e w2 ⟨rfl, hb⟩
    have b2 := Lib.hid (b1.out.trans (hb.mono b1.out.size))
    clear hb TO
    go_wp2_with fail
    have SM := same_any none 0 0 [] none 0 0 [] w2 (IntsAt.nil _ _) (IntsAt.nil _ _)
    rw [sameL_self] at SM
    refine SM.mono ?_
    rintro e w3 ⟨rfl, m, rfl⟩
    have b3 := Lib.hid (below_drewN' b2.out m)
    go_wp2_with fail
    refine (awake08_any _).mono ?_
    rintro e w4 ⟨rfl, hb⟩
    go_wp2_with fail
    go_ret
    exact ⟨rfl, b3.out.trans (hb.mono b3.out.size)⟩
  replace SH := Lib.hid (fun w1 hb => (SH w1 hb).mono fun e w' h => h.1 h0)
  replace TO := Lib.hid (fun w1 hb => (TO w1 hb).mono fun e w' h => h.1 h0)
  have hf := psS_fits h0
  have hk := (psE_len h0).2
  obtain ⟨zs, hz⟩ : ∃ zs, psS x.ss wd st = zs := ⟨_, rfl⟩
  obtain ⟨k, hkk⟩ : ∃ k, x.ss.length = k := ⟨_, rfl⟩
  rw [hz, hkk] at SH TO
  rw [hz] at hf
  rw [hkk] at hk
  have HF := Lib.hid hf
  clear hf hz hkk h0
  go_enter Try.func3, Try.ntmps3
  go_wp2_with fail
  refine (SH.out w t0.out).mono ?_
  rintro e w1 ⟨A, c, rfl, o1, hb⟩
  have b1 := Lib.hid (t0.out.trans (hb.mono t0.out.size))
  have I1 := Lib.hid (row_ints o1 (by omega) HF.out)
  clear hb SH o1
  go_wp2_with fail
  refine (TO.out w1 b1.out).mono ?_
  rintro e w2 ⟨A2, cc2, rfl, o2, hb⟩
  have b2 := Lib.hid (b1.out.trans (hb.mono b1.out.size))
  have I1' := I1.out.kept hb
  have I2 := row_ints o2 (by omega) HF.out
  clear hb TO o2
  have SM := same_any A k c zs A2 k cc2 zs w2 I1' I2
  rw [sameL_self] at SM
  have SM1 := Lib.hid SM
  clear SM I1' I2 I1
  go_wp2_with fail
  refine SM1.out.mono ?_
  rintro e w3 ⟨rfl, m, rfl⟩
  have b3 := Lib.hid (below_drewN' b2.out m)
  go_wp2_with fail
  refine (awake08_any _).mono ?_
  rintro e w4 ⟨rfl, hb⟩
  go_wp2_with fail
  go_ret
  exact ⟨rfl, b3.out.trans (hb.mono b3.out.size)⟩

set_option maxRecDepth 100000 in
set_option maxHeartbeats 4000000 in
theorem poolBest_walk (a : Option Addr) (len cap : Nat) (zs : List Int) (w : World) (h : IntsAt w a len zs) :
    Calls Try.prog 6 #[.slice a len cap] w fun e w' => e = .returned (.bool true) ∧ Below w.heap.size w w' := by
  have BE := pbest_any a len cap zs w h
  have hl6 := h.2.1
  by_cases h3 : 300 < len
  · have hg : (300 : Int) < (len : Int) := by omega
    clear BE h
    go_enter Try.func6, Try.ntmps6
    go_wp2_with fail
    refine (awake08_any _).mono ?_
    rintro e w2 ⟨rfl, hb⟩
    go_wp2_with fail
    go_ret
    exact ⟨rfl, hb⟩
  have hg : ¬ (300 : Int) < (len : Int) := by omega
  by_cases h0 : len = 0
  · rw [h0, bestI_zero] at BE
    have BE1 := Lib.hid BE
    clear BE h hg hl6 h3
    subst h0
    go_enter Try.func6, Try.ntmps6
    go_wp2_with fail
    refine BE1.out.mono ?_
    rintro e w1 ⟨rfl, rfl⟩
    go_wp2_with fail
    refine (awake08_any _).mono ?_
    rintro e w2 ⟨rfl, hb⟩
    go_wp2_with fail
    go_ret
    exact ⟨rfl, hb⟩
  rw [bestI_pos zs (by omega)] at BE
  have hm := (bestN_range zs 0 (k := len) (by omega)).2
  have HX := Lib.hid (fun j (hj : j < len) => (bestN_max zs 0 hj : zs.getD (0 + j) 0 ≤ zs.getD (bestN zs 0 len) 0))
  have HY := Lib.hid (fun j (hj : 0 + j < bestN zs 0 len) => bestN_first zs 0 (k := len) hj)
  simp only [Nat.zero_add] at HX HY
  obtain ⟨b, off, rfl, hc⟩ := ints_cell h (by omega)
  obtain ⟨m, hmE⟩ : ∃ m, bestN zs 0 len = m := ⟨_, rfl⟩
  rw [hmE] at BE hm HX HY
  have hml : m < len := by omega
  have hcm := hc m hml
  obtain ⟨y, hy⟩ : ∃ y, zs.getD m 0 = y := ⟨_, rfl⟩
  rw [hy] at HX HY hcm
  have HC := Lib.hid hc
  have BE1 := Lib.hid BE
  have hn0 : ¬ (len : Int) = 0 := by omega
  have hn1 : ¬ (m : Int) < 0 := by omega
  have hn2 : ¬ (len : Int) ≤ (m : Int) := by omega
  clear BE h hc hmE hy hm h3 h0
  go_enter Try.func6, Try.ntmps6
  go_wp2_with fail
  refine BE1.out.mono ?_
  rintro e w1 ⟨rfl, rfl⟩
  go_wp2_with fail
  go_loop [30] (fun i => ∃ k : Nat, k ≤ len ∧ i = .int .i64 k) (fun i => len - (intOf i).toNat)
  case atStart => exact ⟨0, Nat.zero_le _, rfl⟩
  case round =>
    obtain ⟨k, hk, rfl⟩ := hrel
    by_cases hlt : k < len
    · have hck := HC.out k hlt
      have hxy := HX.out k hlt
      have hfirst := Lib.hid (fun (hh : k < m) => HY.out k hh)
      obtain ⟨x, hx⟩ : ∃ x, zs.getD k 0 = x := ⟨_, rfl⟩
      rw [hx] at hck hxy hfirst
      have hng : ¬ y < x := by omega
      clear hx
      by_cases c : k < m
      · have hne : (x == y) = false := beq_eq_false_iff_ne.2 (by have := hfirst.out c; omega)
        have hkm : (k : Int) < (m : Int) := by omega
        clear hxy hfirst c
        go_wp2_with fail
        go_round
        case rel => exact ⟨k + 1, by omega, by go_num⟩
        case measure => (simp [intOf]; try omega)
      · have hkm : ¬ (k : Int) < (m : Int) := by omega
        clear hxy hfirst c
        go_wp2_with fail
        go_round
        case rel => exact ⟨k + 1, by omega, by go_num⟩
        case measure => (simp [intOf]; try omega)
    · go_wp2_with fail
      refine (awake08_any _).mono ?_
      rintro e w2 ⟨rfl, hb⟩
      go_wp2_with fail
      go_ret
      exact ⟨rfl, hb⟩
end Go.Proofs.Ytdimpgojamhakaa

