import Derived.Test.YtdimpgojamhakaaJ08
/-
  The walk of the statement PoolMore.
-/
namespace Go.Proofs.Ytdimpgojamhakaa
open Go.RowKit
set_option linter.unusedVariables false
set_option linter.unusedSimpArgs false

/-- Windows over one row, and those that are wider by one. -/
theorem pool_more {xs : List Int} (h : rightS xs = true) (hl : xs.length = 1) {w : Nat} (h1 : 1 ≤ w) (h2 : (w : Int) < xs.getD 0 0) : ∃ side n : Nat, xs.getD 0 0 = side ∧ psE xs w 1 = 0 ∧ psE xs ((w : Int) + 1) 1 = 0 ∧ PoolN xs w 1 side w 1 (n + 1) 1 ∧ PoolN xs ((w : Int) + 1) 1 side (w + 1) 1 n 1 ∧ n + w = side ∧ prodI xs = side := by
  match xs, hl with
  | [a], _ =>
    have hs0 : lastI [a] = a := rfl
    obtain ⟨b1, b2⟩ := lastI_in h
    rw [hs0] at b1 b2
    replace h2 : (w : Int) < a := h2
    obtain ⟨side, rfl⟩ := nat_of (z := a) (by omega)
    have e1 : psE [(side : Int)] w 1 = 0 := by rw [psE_right h, hs0]; exact winE_zero (by omega)
    have e2 : psE [(side : Int)] ((w : Int) + 1) 1 = 0 := by rw [psE_right h, hs0]; exact winE_zero (by omega)
    obtain ⟨side1, w1, s1, n1, R1, q1⟩ := pool_numbers e1
    obtain ⟨side2, w2, s2, n2, R2, q2⟩ := pool_numbers e2
    obtain rfl : side = side1 := by have := q1.last; rw [hs0] at this; omega
    obtain rfl : side = side2 := by have := q2.last; rw [hs0] at this; omega
    obtain rfl : w = w1 := by have := q1.wdE; omega
    obtain rfl : w + 1 = w2 := by have := q2.wdE; omega
    obtain rfl : 1 = s1 := by have := q1.stE; omega
    obtain rfl : 1 = s2 := by have := q2.stE; omega
    have hprod : prodI [(side : Int)] = side := by simp [prodI]
    have hR : ∀ R : Nat, prodI [(side : Int)] = (R * side : Nat) → 1 = R := by
      intro R hR
      rw [hprod] at hR
      have : 1 * side = R * side := by omega
      exact Nat.eq_of_mul_eq_mul_right (by omega) this
    obtain rfl : 1 = R1 := hR _ q1.cells
    obtain rfl : 1 = R2 := hR _ q2.cells
    obtain ⟨n, hn⟩ : ∃ n, side = n + w := ⟨side - w, by omega⟩
    obtain rfl : n + 1 = n1 := by have := q1.nE; rw [this]; unfold winC; rw [if_pos ⟨by omega, by omega, by omega⟩]; simp; omega
    obtain rfl : n = n2 := by have := q2.nE; rw [this]; unfold winC; rw [if_pos ⟨by omega, by omega, by omega⟩]; simp; omega
    exact ⟨side, n, rfl, e1, e2, q1, q2, hn.symm, hprod⟩
theorem more_at {cs : List Int} {w side n k : Nat} (hk : k < n) : (goL 1 cs w (winsL side 1 n 1)).getD k 0 = maxN cs k w := by
  have h := winsL_get (side := side) (s := 1) (n := n) (R := 1) (r := 0) (i := k) (by omega) hk
  simp only [Nat.zero_mul, Nat.zero_add, Nat.mul_one] at h
  rw [goL_get (by omega), h]
  unfold poolA
  rw [if_pos rfl]
theorem max_split (u v : Int) : (if u < v then v else u) = max u v := by
  by_cases c : u < v
  · rw [if_pos c]; omega
  · rw [if_neg c]; omega
theorem goL_max_fits {cs : List Int} (h : Fits cs) (w : Nat) (ps : List (Nat × Nat)) : Fits (goL 1 cs w ps) := by
  intro t ht
  unfold goL at ht
  obtain ⟨p, -, rfl⟩ := List.mem_map.1 ht
  unfold poolA
  rw [if_pos rfl]
  exact maxN_fits h _ _

set_option maxRecDepth 100000 in
set_option maxHeartbeats 4000000 in
theorem poolMore_no (x : TV) (wd : Int) (w : World) (hx : x.At w) (hn : ¬ (x.sl = 1 ∧ x.cl ≤ 300 ∧ rightT x.ss x.cl = true ∧ 1 ≤ wd ∧ wd < x.ss.getD 0 0)) :
    Calls Try.prog 8 #[.agg #[.slice x.sa x.sl x.sc, .slice x.ca x.cl x.cc], .int .i64 wd] w fun e w' => e = .returned (.bool true) ∧ Below w.heap.size w w' := by
  obtain ⟨wA, hwA, J1, z1, n1⟩ := grid_box w (.slice x.sa x.sl x.sc) (.slice x.ca x.cl x.cc)
  obtain ⟨j0, j1, -, -⟩ := J1.out.see
  have RG := rright8_any x.sa x.sl x.sc x.ss x.ca x.cl x.cc wA (hx.1.kept z1.out) (by have := hx.2.2.2; omega)
  have hsl : x.sl ≤ 17592186044416 := hx.2.2.1
  have hcl : x.cl ≤ 17592186044416 := hx.2.2.2
  by_cases c1 : x.sl = 1
  case neg =>
    have d1 : ((x.sl : Int) != 1) = true := bne_iff_ne.2 (by omega)
    have bz := z1
    clear hn RG hx
    go_enter Try.func8, Try.ntmps8
    go_upto_region 1 with (fail)
    rw [hwA.out]
    go_wp2_with fail
    refine (awake08_any _).mono ?_
    rintro e w2 ⟨rfl, hb⟩
    go_wp2_with fail
    go_ret
    exact ⟨rfl, bz.out.trans (hb.mono bz.out.size)⟩
  have d1 : ((x.sl : Int) != 1) = false := by rw [c1]; rfl
  by_cases c2 : x.cl ≤ 300
  case neg =>
    have d2 : (300 : Int) < (x.cl : Int) := by omega
    have bz := z1
    clear hn RG hx c1
    go_enter Try.func8, Try.ntmps8
    go_upto_region 1 with (fail)
    rw [hwA.out]
    go_wp2_with fail
    refine (awake08_any _).mono ?_
    rintro e w2 ⟨rfl, hb⟩
    go_wp2_with fail
    go_ret
    exact ⟨rfl, bz.out.trans (hb.mono bz.out.size)⟩
  have d2 : ¬ (300 : Int) < (x.cl : Int) := by omega
  cases c3 : rightT x.ss x.cl
  · rw [c3] at RG
    replace RG := Lib.hid RG
    clear hn c3 hx c1
    go_enter Try.func8, Try.ntmps8
    go_upto_region 1 with (fail)
    rw [hwA.out]
    go_wp2_with fail
    refine RG.out.mono ?_
    rintro e w1 ⟨rfl, hb1⟩
    have bz := Lib.hid (z1.out.trans (hb1.mono z1.out.size))
    clear hb1 RG
    go_wp2_with fail
    refine (awake08_any _).mono ?_
    rintro e w2 ⟨rfl, hb⟩
    go_wp2_with fail
    go_ret
    exact ⟨rfl, bz.out.trans (hb.mono bz.out.size)⟩
  rw [c3] at RG
  by_cases c4 : 1 ≤ wd
  case neg =>
    have d4 : wd < 1 := by omega
    replace RG := Lib.hid RG
    clear hn c3 hx c1 c4
    go_enter Try.func8, Try.ntmps8
    go_upto_region 1 with (fail)
    rw [hwA.out]
    go_wp2_with fail
    refine RG.out.mono ?_
    rintro e w1 ⟨rfl, hb1⟩
    have bz := Lib.hid (z1.out.trans (hb1.mono z1.out.size))
    clear hb1 RG
    go_wp2_with fail
    refine (awake08_any _).mono ?_
    rintro e w2 ⟨rfl, hb⟩
    go_wp2_with fail
    go_ret
    exact ⟨rfl, bz.out.trans (hb.mono bz.out.size)⟩
  have d4 : ¬ wd < 1 := by omega
  have d5 : x.ss.getD 0 0 ≤ wd := by
    by_cases c : wd < x.ss.getD 0 0
    · exact absurd ⟨c1, c2, c3, c4, c⟩ hn
    · omega
  obtain ⟨sb, so, hsa, hscell⟩ := ints_cell hx.1 (by omega)
  have hsc := hscell 0 (by omega)
  rw [Nat.add_zero] at hsc
  obtain ⟨y, hy⟩ : ∃ y, x.ss.getD 0 0 = y := ⟨_, rfl⟩
  rw [hy] at hsc d5
  have HSC := Lib.hid (fun w1 (hb : Below w.heap.size w w1) => cell_later hb hsc)
  have hs1 : (0 : Int) < (x.sl : Int) := by omega
  have hs2 : 0 < x.sl := by omega
  rw [hsa] at hwA j0 J1 RG ⊢
  replace RG := Lib.hid RG
  clear hn c3 hx c1 c4 hsa hscell hsc hy
  go_enter Try.func8, Try.ntmps8
  go_upto_region 1 with (fail)
  rw [hwA.out]
  go_wp2_with fail
  refine RG.out.mono ?_
  rintro e w1 ⟨rfl, hb1⟩
  have bz := Lib.hid (z1.out.trans (hb1.mono z1.out.size))
  obtain ⟨k0, k1, -, -⟩ := (J1.out.kept hb1).see
  have hsc := HSC.out w1 bz.out
  clear hb1 RG j0 j1
  go_wp2_with fail
  refine (awake08_any _).mono ?_
  rintro e w2 ⟨rfl, hb⟩
  go_wp2_with fail
  go_ret
  exact ⟨rfl, bz.out.trans (hb.mono bz.out.size)⟩

set_option maxRecDepth 100000 in
set_option maxHeartbeats 16000000 in
theorem poolMore_ok (x : TV) (wd : Int) (w : World) (hx : x.At w ∧ x.Cap) (c1 : x.sl = 1) (c2 : x.cl ≤ 300) (c3 : rightT x.ss x.cl = true) (c4 : 1 ≤ wd) (c5 : wd < x.ss.getD 0 0) :
    Calls Try.prog 8 #[.agg #[.slice x.sa x.sl x.sc, .slice x.ca x.cl x.cc], .int .i64 wd] w fun e w' => e = .returned (.bool true) ∧ Below w.heap.size w w' := by
  obtain ⟨hr1, hr2⟩ := rightT_parts c3
  have hsl : x.ss.length = x.sl := hx.1.1.1
  obtain ⟨wn, rfl⟩ := nat_of (z := wd) (by omega)
  obtain ⟨side, n, hside, e1, e2, hp1, hp2, hnw, hprod⟩ := pool_more hr1 (by omega) (w := wn) (by omega) c5
  have hcl : x.cl = side := by omega
  have E1 : kindE 1 x.ss x.cl wn 1 = 0 := by rw [kindE_right (.inl rfl) c3]; exact e1
  have E2 : kindE 1 x.ss x.cl ((wn : Int) + 1) 1 = 0 := by rw [kindE_right (.inl rfl) c3]; exact e2
  have GO1 := fun w1 (hb : Below w.heap.size w w1) => pgo_ok 1 x wn 1 side wn 1 (n + 1) 1 w1 (hx.1.kept hb) hx.2 E1 hp1
  have GO2 := fun w1 (hb : Below w.heap.size w w1) => pgo_ok 1 x ((wn : Int) + 1) 1 side (wn + 1) 1 n 1 w1 (hx.1.kept hb) hx.2 E2 hp2
  have RG := rright8_any x.sa x.sl x.sc x.ss x.ca x.cl x.cc
  have RG1 := fun w1 (hb : Below w.heap.size w w1) => c3 ▸ RG w1 (hx.1.1.kept hb) (by have := hx.1.2.2.2; omega)
  have HA := Lib.hid (fun k (hk : k < n + 1) => more_at (cs := x.cs) (w := wn) (side := side) hk)
  have HY := Lib.hid (fun k (hk : k < n) => more_at (cs := x.cs) (w := wn + 1) (side := side) hk)
  have HMX := Lib.hid (fun k => maxN_more x.cs k (k := wn) (by omega))
  have HAF := Lib.hid (goL_max_fits hx.1.2.1.2.2.1 wn (winsL side 1 (n + 1) 1))
  have HYF := Lib.hid (goL_max_fits hx.1.2.1.2.2.1 (wn + 1) (winsL side 1 n 1))
  have hn1 : 1 ≤ n := hp2.n1
  have hn6 : n ≤ 300 := by omega
  have hw6 : wn ≤ 300 := by omega
  obtain ⟨sb, so, hsa, hscell⟩ := ints_cell hx.1.1 (by omega)
  have hsc := hscell 0 (by omega)
  rw [Nat.add_zero, hside] at hsc
  have HSC := Lib.hid (fun w1 (hb : Below w.heap.size w w1) => cell_later hb hsc)
  have d1 : ((x.sl : Int) != 1) = false := by rw [c1]; rfl
  have d2 : ¬ (300 : Int) < (x.cl : Int) := by omega
  have d4 : ¬ (wn : Int) < 1 := by omega
  have d5 : ¬ (side : Int) ≤ (wn : Int) := by omega
  have hs1 : (0 : Int) < (x.sl : Int) := by omega
  have hs2 : 0 < x.sl := by omega
  obtain ⟨cl, hclE⟩ : ∃ cl, x.cl = cl := ⟨_, rfl⟩
  obtain ⟨als, has⟩ : ∃ l, goL 1 x.cs wn (winsL side 1 (n + 1) 1) = l := ⟨_, rfl⟩
  obtain ⟨ys, hys⟩ : ∃ l, goL 1 x.cs (wn + 1) (winsL side 1 n 1) = l := ⟨_, rfl⟩
  simp only [has] at HA HAF
  simp only [hys] at HY HYF
  rw [has, hsl, Nat.one_mul] at GO1
  rw [hys, hsl, Nat.one_mul] at GO2
  rw [hclE] at GO1 GO2 RG1 d2 ⊢
  rw [hsa] at GO1 GO2 RG1 ⊢
  obtain ⟨oa, hoa⟩ : ∃ l, psS x.ss (wn : Int) 1 = l := ⟨_, rfl⟩
  obtain ⟨ob, hob⟩ : ∃ l, psS x.ss ((wn : Int) + 1) 1 = l := ⟨_, rfl⟩
  rw [hoa] at GO1
  rw [hob] at GO2
  have RG2 := Lib.hid RG1
  replace GO1 := Lib.hid GO1
  replace GO2 := Lib.hid GO2
  clear hr1 hr2 hsl hside e1 e2 hp1 hp2 hnw hprod hcl E1 E2 RG RG1 hx c1 c2 c3 c4 c5 hsa hscell hsc has hys hclE hoa hob
  obtain ⟨wA, hwA, J1, z1, n1⟩ := grid_box w (.slice (some ⟨sb, so, none⟩) x.sl x.sc) (.slice x.ca cl x.cc)
  obtain ⟨j0, j1, -, -⟩ := J1.out.see
  go_enter Try.func8, Try.ntmps8
  go_upto_region 1 with (fail)
  rw [hwA.out]
  go_wp2_with fail
  refine (RG2.out wA z1.out).mono ?_
  rintro e w1 ⟨rfl, hb1⟩
  have b1 := Lib.hid (z1.out.trans (hb1.mono z1.out.size))
  have K1 := Lib.hid (J1.out.kept hb1)
  have hsc := HSC.out w1 b1.out
  clear hb1 RG2 j0 j1
  obtain ⟨j0, j1, -, -⟩ := K1.out.see
  go_wp2_with fail
  refine (GO1.out w1 b1.out).mono ?_
  rintro e w2 ⟨v', rfl, A1, a1, A2, a2, rfl, o1, o2, -, hb2⟩
  obtain ⟨ga, a2', hv⟩ := Joins.ownsRow_form o2 (by omega)
  simp only [Value.slice.injEq] at hv
  obtain ⟨rfl, -, rfl⟩ := hv
  obtain ⟨wC, hwC, JA, zC, nC⟩ := grid_box w2 (.slice A1 x.sl a1) (.slice (some ⟨ga, 0, none⟩) (n + 1) a2)
  have k2 := hb2.trans (zC.out.mono hb2.size)
  have b2 := Lib.hid (b1.out.trans (k2.mono b1.out.size))
  have K2 := Lib.hid (K1.out.kept k2)
  have IA := Lib.hid ((row_ints o2 (by omega) HAF.out).kept zC.out)
  clear hb2 o1 o2 k2 GO1 K1 j0 j1 hsc
  go_upto_region 4 with (fail)
  rw [hwC.out]
  obtain ⟨j0, j1, -, -⟩ := K2.out.see
  go_wp2_with fail
  refine (GO2.out wC b2.out).mono ?_
  rintro e w4 ⟨v', rfl, Y1, d9, Y2, dy, rfl, o1, o2, -, hb2⟩
  obtain ⟨gy, dy', hv⟩ := Joins.ownsRow_form o2 (by omega)
  simp only [Value.slice.injEq] at hv
  obtain ⟨rfl, -, rfl⟩ := hv
  obtain ⟨wE, hwE, JY, zE, nE⟩ := grid_box w4 (.slice Y1 x.sl d9) (.slice (some ⟨gy, 0, none⟩) n dy)
  have k4 := hb2.trans (zE.out.mono hb2.size)
  have b4 := Lib.hid (b2.out.trans (k4.mono b2.out.size))
  have JA4 := Lib.hid (JA.out.kept k4)
  have IA4 := Lib.hid (IA.out.kept k4)
  have IY4 := Lib.hid ((row_ints o2 (by omega) HYF.out).kept zE.out)
  clear hb2 o1 o2 k4 GO2 K2 JA IA j0 j1
  go_upto_region 5 with (fail)
  rw [hwE.out]
  obtain ⟨l0, l1, -, -⟩ := JA4.out.see
  obtain ⟨q0, q1, -, -⟩ := JY.out.see
  go_wp2_with fail
  go_loopw [70] (fun iv wr => ∃ i : Nat, i ≤ n ∧ iv = .int .i64 i ∧ Hid (Below wE.heap.size wE wr)) (fun iv _ => n - (intOf iv).toNat)
  case atStart => exact ⟨0, Nat.zero_le _, rfl, Lib.hid (Below.refl _ _)⟩
  case round =>
    obtain ⟨i, hi, rfl, hbr⟩ := hrel
    by_cases hlt : i < n
    · obtain ⟨u, hu⟩ : ∃ u, als.getD i 0 = u := ⟨_, rfl⟩
      obtain ⟨v, hv⟩ : ∃ v, als.getD (i + 1) 0 = v := ⟨_, rfl⟩
      obtain ⟨m, hm⟩ : ∃ m, ys.getD i 0 = m := ⟨_, rfl⟩
      have hmax : max u v = m := by
        rw [← hu, ← hv, ← hm, HA.out i (by omega), HA.out (i + 1) (by omega), HY.out i hlt, HMX.out i]
      have hmax2 : (if u < v then v else u) = m := by rw [max_split, hmax]
      have cy : ∀ w', Below wE.heap.size wE w' → w'.cell? ⟨gy, i, none⟩ = some (.int .i64 m) := fun w' hb => by
        rcases (IY4.out.kept hb).2.2.2 with h4 | ⟨b', off', ha, hcx⟩
        · omega
        · cases ha
          have := hcx i hlt
          rw [Nat.zero_add, hm] at this
          exact this
      have ca : ∀ w', Below wE.heap.size wE w' → w'.cell? ⟨ga, i, none⟩ = some (.int .i64 u) ∧ w'.cell? ⟨ga, i + 1, none⟩ = some (.int .i64 v) := fun w' hb => by
        rcases (IA4.out.kept hb).2.2.2 with h4 | ⟨b', off', ha, hcx⟩
        · omega
        · cases ha
          have h1 := hcx i (by omega)
          have h2 := hcx (i + 1) (by omega)
          rw [Nat.zero_add, hu] at h1
          rw [Nat.zero_add, hv] at h2
          exact ⟨h1, h2⟩
      have SK := Lib.hid (fun w' (hb : Below wr.heap.size wr w') => (show w'.cell? ⟨w4.heap.size, 1, none⟩ = some (.slice (some ⟨gy, 0, none⟩) n dy) ∧ w'.cell? ⟨w2.heap.size, 1, none⟩ = some (.slice (some ⟨ga, 0, none⟩) (n + 1) a2) ∧ w'.cell? ⟨gy, i, none⟩ = some (.int .i64 m) ∧ w'.cell? ⟨ga, i, none⟩ = some (.int .i64 u) ∧ w'.cell? ⟨ga, i + 1, none⟩ = some (.int .i64 v) from by
        have hb2 := hbr.out.trans (hb.mono hbr.out.size)
        exact ⟨(JY.out.kept hb2).see.2.1, (JA4.out.kept hb2).see.2.1, cy w' hb2, (ca w' hb2).1, (ca w' hb2).2⟩))
      have t1 := Lib.hid (show Below wr.heap.size wr wr.drew from (Below.refl _ _).drew)
      have hbr2 := Lib.hid (hbr.out.trans (t1.out.mono hbr.out.size))
      have x1 : (0 : Int) ≤ (i : Int) + 1 := by omega
      have x2 : (i : Int) + 1 < ((n + 1 : Nat) : Int) := by omega
      have x3 : ((i : Int) + 1).toNat = i + 1 := by omega
      have x4 : IntKind.i64.wrap ((i : Int) + 1) = (i : Int) + 1 := IntWalk.i64_in _ (by omega)
      have x5 : (i : Int) + 1 < (n : Int) + 1 := by omega
      have x6 : (i : Int) < (n : Int) := by omega
      have x7 : (i : Int) < ((n + 1 : Nat) : Int) := by omega
      have x8 : (i : Int) < (n : Int) + 1 := by omega
      have x9 : i < n + 1 := by omega
      have hcy := cy wr hbr.out
      clear cy ca hu hv hm
      go_upto_region 10 with (fail)
      refine wp_region_held_drew (S := fun w' => w'.cell? ⟨w4.heap.size, 1, none⟩ = some (.slice (some ⟨gy, 0, none⟩) n dy) ∧ w'.cell? ⟨w2.heap.size, 1, none⟩ = some (.slice (some ⟨ga, 0, none⟩) (n + 1) a2) ∧ w'.cell? ⟨gy, i, none⟩ = some (.int .i64 m) ∧ w'.cell? ⟨ga, i, none⟩ = some (.int .i64 u) ∧ w'.cell? ⟨ga, i + 1, none⟩ = some (.int .i64 v)) (by kernel_rfl) (SK.out _ t1.out) (fun hHeld => ?_)
      refine held_take 0 (.pointer (some ⟨w4.heap.size, 1, none⟩)) rfl (by kernel_rfl) (by kernel_rfl) (by kernel_rfl) (fun _ _ _ h => h) (by rfl) (by intro w' hS; go_simp) (by assumption) ?_
      try simp only [Act.put, List.setIfInBounds_toArray, List.set_cons_zero, List.set_cons_succ]
      refine held_take 1 (.slice (some ⟨gy, 0, none⟩) n dy) rfl (by kernel_rfl) (by kernel_rfl) (by kernel_rfl) (fun _ _ _ h => h) (by rfl) (by intro w' hS; go_simp) (by assumption) ?_
      try simp only [Act.put, List.setIfInBounds_toArray, List.set_cons_zero, List.set_cons_succ]
      refine held_take 2 (.int .i64 i) rfl (by kernel_rfl) (by kernel_rfl) (by kernel_rfl) (fun _ _ _ h => h) (by rfl) (by intro w' hS; go_simp) (by assumption) ?_
      try simp only [Act.put, List.setIfInBounds_toArray, List.set_cons_zero, List.set_cons_succ]
      refine held_take 3 (.pointer (some ⟨gy, i, none⟩)) rfl (by kernel_rfl) (by kernel_rfl) (by kernel_rfl) (fun _ _ _ h => h) (by rfl) (by intro w' hS; go_simp) (by assumption) ?_
      try simp only [Act.put, List.setIfInBounds_toArray, List.set_cons_zero, List.set_cons_succ]
      refine held_take 4 (.int .i64 m) rfl (by kernel_rfl) (by kernel_rfl) (by kernel_rfl) (fun _ _ _ h => h) (by rfl) (by intro w' hS; go_simp) (by assumption) ?_
      try simp only [Act.put, List.setIfInBounds_toArray, List.set_cons_zero, List.set_cons_succ]
      refine held_take 5 (.pointer (some ⟨w2.heap.size, 1, none⟩)) rfl (by kernel_rfl) (by kernel_rfl) (by kernel_rfl) (fun _ _ _ h => h) (by rfl) (by intro w' hS; go_simp) (by assumption) ?_
      try simp only [Act.put, List.setIfInBounds_toArray, List.set_cons_zero, List.set_cons_succ]
      refine held_take 6 (.slice (some ⟨ga, 0, none⟩) (n + 1) a2) rfl (by kernel_rfl) (by kernel_rfl) (by kernel_rfl) (fun _ _ _ h => h) (by rfl) (by intro w' hS; go_simp) (by assumption) ?_
      try simp only [Act.put, List.setIfInBounds_toArray, List.set_cons_zero, List.set_cons_succ]
      refine held_take 7 (.int .i64 i) rfl (by kernel_rfl) (by kernel_rfl) (by kernel_rfl) (fun _ _ _ h => h) (by rfl) (by intro w' hS; go_simp) (by assumption) ?_
      try simp only [Act.put, List.setIfInBounds_toArray, List.set_cons_zero, List.set_cons_succ]
      refine held_take 8 (.pointer (some ⟨ga, i, none⟩)) rfl (by kernel_rfl) (by kernel_rfl) (by kernel_rfl) (fun _ _ _ h => h) (by rfl) (by intro w' hS; go_simp) (by assumption) ?_
      try simp only [Act.put, List.setIfInBounds_toArray, List.set_cons_zero, List.set_cons_succ]
      refine held_take 9 (.int .i64 u) rfl (by kernel_rfl) (by kernel_rfl) (by kernel_rfl) (fun _ _ _ h => h) (by rfl) (by intro w' hS; go_simp) (by assumption) ?_
      try simp only [Act.put, List.setIfInBounds_toArray, List.set_cons_zero, List.set_cons_succ]
      refine held_take 10 (.pointer (some ⟨w2.heap.size, 1, none⟩)) rfl (by kernel_rfl) (by kernel_rfl) (by kernel_rfl) (fun _ _ _ h => h) (by rfl) (by intro w' hS; go_simp) (by assumption) ?_
      try simp only [Act.put, List.setIfInBounds_toArray, List.set_cons_zero, List.set_cons_succ]
      refine held_take 11 (.slice (some ⟨ga, 0, none⟩) (n + 1) a2) rfl (by kernel_rfl) (by kernel_rfl) (by kernel_rfl) (fun _ _ _ h => h) (by rfl) (by intro w' hS; go_simp) (by assumption) ?_
      try simp only [Act.put, List.setIfInBounds_toArray, List.set_cons_zero, List.set_cons_succ]
      refine held_take 12 (.int .i64 i) rfl (by kernel_rfl) (by kernel_rfl) (by kernel_rfl) (fun _ _ _ h => h) (by rfl) (by intro w' hS; go_simp) (by assumption) ?_
      try simp only [Act.put, List.setIfInBounds_toArray, List.set_cons_zero, List.set_cons_succ]
      refine held_take 13 (.int .i64 ((i : Int) + 1)) rfl (by kernel_rfl) (by kernel_rfl) (by kernel_rfl) (fun _ _ _ h => h) (by rfl) (by intro w' hS; go_simp) (by assumption) ?_
      try simp only [Act.put, List.setIfInBounds_toArray, List.set_cons_zero, List.set_cons_succ]
      refine held_take 14 (.pointer (some ⟨ga, i + 1, none⟩)) rfl (by kernel_rfl) (by kernel_rfl) (by kernel_rfl) (fun _ _ _ h => h) (by rfl) (by intro w' hS; go_simp) (by assumption) ?_
      try simp only [Act.put, List.setIfInBounds_toArray, List.set_cons_zero, List.set_cons_succ]
      refine held_take 15 (.int .i64 v) rfl (by kernel_rfl) (by kernel_rfl) (by kernel_rfl) (fun _ _ _ h => h) (by rfl) (by intro w' hS; go_simp) (by assumption) ?_
      try simp only [Act.put, List.setIfInBounds_toArray, List.set_cons_zero, List.set_cons_succ]
      refine held_take 16 (.int .i64 m) rfl (by kernel_rfl) (by kernel_rfl) (by kernel_rfl) (fun _ _ _ h => h) (by rfl) (by intro w' hS; go_simp) (by assumption) ?_
      try simp only [Act.put, List.setIfInBounds_toArray, List.set_cons_zero, List.set_cons_succ]
      refine held_take 17 (.bool false) rfl (by kernel_rfl) (by kernel_rfl) (by kernel_rfl) (fun _ _ _ h => h) (by rfl) (by intro w' hS; go_simp) (by assumption) ?_
      try simp only [Act.put, List.setIfInBounds_toArray, List.set_cons_zero, List.set_cons_succ]
      refine wpAnyH_done (by kernel_rfl) ?_ _
      clear x1 x2 x3 x5 x7 x8 x9 hcy
      go_wp2_with fail
      go_roundw
      case rel => exact ⟨i + 1, by omega, by go_num, hbr2⟩
      case measure => (simp [intOf]; try omega)
    · have bz := Lib.hid (b4.out.trans (hbr.out.mono b4.out.size))
      go_wp2_with fail
      refine (awake08_any _).mono ?_
      rintro e w2 ⟨rfl, hb⟩
      go_wp2_with fail
      go_ret
      exact ⟨rfl, bz.out.trans (hb.mono bz.out.size)⟩

theorem poolMore_walk (x : TV) (wd : Int) (w : World) (hx : x.At w) (hc : x.Cap) (b1 : -9223372036854775808 ≤ wd) (c1 : wd ≤ 9223372036854775807) :
    Calls Try.prog 8 #[.agg #[.slice x.sa x.sl x.sc, .slice x.ca x.cl x.cc], .int .i64 wd] w fun e w' => e = .returned (.bool true) ∧ Below w.heap.size w w' := by
  by_cases hn : x.sl = 1 ∧ x.cl ≤ 300 ∧ rightT x.ss x.cl = true ∧ 1 ≤ wd ∧ wd < x.ss.getD 0 0
  · exact poolMore_ok x wd w ⟨hx, hc⟩ hn.1 hn.2.1 hn.2.2.1 hn.2.2.2.1 hn.2.2.2.2
  · exact poolMore_no x wd w hx hn
end Go.Proofs.Ytdimpgojamhakaa

