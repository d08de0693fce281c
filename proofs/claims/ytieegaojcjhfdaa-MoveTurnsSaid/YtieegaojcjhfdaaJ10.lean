import Derived.Test.YtieegaojcjhfdaaJ05
import Derived.Test.YtieegaojcjhfdaaJ06
import Derived.Deep.RegionWith
/-
  The walk of the statement MoveTurns.
-/
namespace Go.Proofs.Ytieegaojcjhfdaa
open Go.RowKit
set_option linter.unusedVariables false
set_option linter.unusedSimpArgs false

/-- What Turn says. -/
theorem turn_a {p : Pr} {s : List Int} (h : okP p = false) : turnR p s = (20, ([], [])) := by unfold turnR; rw [if_pos h]; rfl
theorem of_bad {s c : List Int} (h : rightT s c.length = false) : ofR s c = (20, ([], [])) := by unfold ofR; rw [if_neg (by rw [h]; decide)]; rfl
theorem turn_b {p : Pr} {s : List Int} (h : okP p = true) (h2 : rightT s p.2.length = false) : turnR p s = (20, ([], [])) := by
  unfold turnR; rw [if_neg (by rw [h]; decide)]; exact of_bad h2
theorem turn_o {p : Pr} {s : List Int} (h : okP p = true) (h2 : rightT s p.2.length = true) : turnR p s = (0, (s, p.2)) := by
  unfold turnR; rw [if_neg (by rw [h]; decide)]; unfold ofR; rw [if_pos h2]
theorem tback_a {x g : Pr} (h : okP x = false) : tbackR x g = (20, ([], [])) := by unfold tbackR; rw [if_pos h]; rfl
theorem tback_t {x g : Pr} (h : okP x = true) : tbackR x g = turnR g x.1 := by unfold tbackR; rw [if_neg (by rw [h]; decide)]
theorem rightT_other {s : List Int} {n m : Nat} (h : rightT s n = true) (hm : m ≠ n) : rightT s m = false := by
  obtain ⟨h1, h2⟩ := rightT_parts h
  exact (rightT_len (by omega)).symm

set_option maxRecDepth 100000 in
set_option maxHeartbeats 4000000 in
theorem turns_big (x g s : TV) (w : World) (hx : Good x w) (hg : Good g w) (hs : small9 [x, g] = false) :
    Calls Try.prog 6 #[.agg #[.slice x.sa x.sl x.sc, .slice x.ca x.cl x.cc], .agg #[.slice g.sa g.sl g.sc, .slice g.ca g.cl g.cc], .slice s.sa s.sl s.sc] w fun e w' => e = .returned (.bool true) ∧ Below w.heap.size w w' := by
  obtain ⟨wA, hwA, J1, z1, n1⟩ := grid_box w (.slice x.sa x.sl x.sc) (.slice x.ca x.cl x.cc)
  obtain ⟨wB, hwB, J2, z2, n2⟩ := grid_box wA (.slice g.sa g.sl g.sc) (.slice g.ca g.cl g.cc)
  rw [n1.out] at J2
  have z := Lib.hid (z1.out.trans (z2.out.mono z1.out.size))
  have J := Lib.hid (J1.out.kept z2.out)
  obtain ⟨r1, hr1, gs1, zr1⟩ := gsl_made2 wB x g (hx.kept z.out) (hg.kept z.out)
  have SM := small9_any _ 2 2 _ r1 gs1.out.at_
  rw [hs] at SM
  have SM1 := Lib.hid SM
  clear SM hs hx hg
  obtain ⟨j0, j1, -, -⟩ := J.out.see
  obtain ⟨k0, k1, -, -⟩ := J2.out.see
  have hr1' := hr1.out
  go_enter Try.func6, Try.ntmps6
  go_upto_region 1 with (fail)
  rw [hwA.out, hwB.out]
  go_wp2_with fail
  clear hr1' j0 j1 k0 k1
  refine SM1.out.mono ?_
  rintro e w1 ⟨rfl, hb1⟩
  have q1 := zr1.out.trans (hb1.mono zr1.out.size)
  have b1 := Lib.hid (z.out.trans (q1.mono z.out.size))
  have JX := Lib.hid (J.out.kept q1)
  have JG := Lib.hid (J2.out.kept q1)
  clear hb1 q1 SM1 J1 J J2 gs1 zr1 hr1
  go_wp2_with fail
  refine (awake09_any _).mono ?_
  rintro e w9 ⟨rfl, hb9⟩
  have b9 := Lib.hid (b1.out.trans (hb9.mono b1.out.size))
  clear hb9
  go_wp2_with fail
  go_ret
  exact ⟨rfl, b9.out⟩

set_option maxRecDepth 100000 in
set_option maxHeartbeats 4000000 in
theorem turns_long (x g s : TV) (w : World) (hx : Good x w) (hg : Good g w) (hs : small9 [x, g] = true) (hl : 9 < s.sl) :
    Calls Try.prog 6 #[.agg #[.slice x.sa x.sl x.sc, .slice x.ca x.cl x.cc], .agg #[.slice g.sa g.sl g.sc, .slice g.ca g.cl g.cc], .slice s.sa s.sl s.sc] w fun e w' => e = .returned (.bool true) ∧ Below w.heap.size w w' := by
  obtain ⟨wA, hwA, J1, z1, n1⟩ := grid_box w (.slice x.sa x.sl x.sc) (.slice x.ca x.cl x.cc)
  obtain ⟨wB, hwB, J2, z2, n2⟩ := grid_box wA (.slice g.sa g.sl g.sc) (.slice g.ca g.cl g.cc)
  rw [n1.out] at J2
  have z := Lib.hid (z1.out.trans (z2.out.mono z1.out.size))
  have J := Lib.hid (J1.out.kept z2.out)
  obtain ⟨r1, hr1, gs1, zr1⟩ := gsl_made2 wB x g (hx.kept z.out) (hg.kept z.out)
  have SM := small9_any _ 2 2 _ r1 gs1.out.at_
  rw [hs] at SM
  have SM1 := Lib.hid SM
  have d9 : (9 : Int) < (s.sl : Int) := by omega
  clear SM hs hx hg hl
  obtain ⟨j0, j1, -, -⟩ := J.out.see
  obtain ⟨k0, k1, -, -⟩ := J2.out.see
  have hr1' := hr1.out
  go_enter Try.func6, Try.ntmps6
  go_upto_region 1 with (fail)
  rw [hwA.out, hwB.out]
  go_wp2_with fail
  clear hr1' j0 j1 k0 k1
  refine SM1.out.mono ?_
  rintro e w1 ⟨rfl, hb1⟩
  have q1 := zr1.out.trans (hb1.mono zr1.out.size)
  have b1 := Lib.hid (z.out.trans (q1.mono z.out.size))
  have JX := Lib.hid (J.out.kept q1)
  have JG := Lib.hid (J2.out.kept q1)
  clear hb1 q1 SM1 J1 J J2 gs1 zr1 hr1
  go_wp2_with fail
  refine (awake09_any _).mono ?_
  rintro e w9 ⟨rfl, hb9⟩
  have b9 := Lib.hid (b1.out.trans (hb9.mono b1.out.size))
  clear hb9
  go_wp2_with fail
  go_ret
  exact ⟨rfl, b9.out⟩

set_option maxRecDepth 100000 in
set_option maxHeartbeats 16000000 in
theorem turns_aa (x g s : TV) (w : World) (hx : Good x w) (hg : Good g w) (hS : s.At w ∧ s.CapS) (hs : small9 [x, g] = true) (hl : s.sl ≤ 9) (q1 : rightT x.ss x.cl = false) :
    Calls Try.prog 6 #[.agg #[.slice x.sa x.sl x.sc, .slice x.ca x.cl x.cc], .agg #[.slice g.sa g.sl g.sc, .slice g.ca g.cl g.cc], .slice s.sa s.sl s.sc] w fun e w' => e = .returned (.bool true) ∧ Below w.heap.size w w' := by
  have hw9 := small9_le hs
  have hxl : x.cl ≤ 1000 := by have := wtsM_mem (t := x) (ts := [x, g]) (by simp); omega
  have hgl : g.cl ≤ 1000 := by have := wtsM_mem (t := g) (ts := [x, g]) (by simp); omega
  have okx := hx.ok
  have okg := hg.ok
  rw [q1] at okx
  have lx : (pr x).2.length = x.cl := hx.len
  have lg : (pr g).2.length = g.cl := hg.len
  have RX := fun w1 (hb : Below w.heap.size w w1) => right9_any x.sa x.sl x.sc x.ss x.ca x.cl x.cc w1 (hx.kept hb).1.1 (by omega)
  rw [q1] at RX
  have TN := fun w1 (hb : Below w.heap.size w w1) => turn_any x s.sa s.sl s.sc s.ss w1 (hx.kept hb) (hS.1.kept hb).1 hxl
  have T2N := fun w1 (hb : Below w.heap.size w w1) => tback_any x g w1 (hx.kept hb) (hg.kept hb) hgl
  have HX := Lib.hid (fun w1 (hb : Below w.heap.size w w1) => hx.kept hb)
  have HG := Lib.hid (fun w1 (hb : Below w.heap.size w w1) => hg.kept hb)
  have HS := Lib.hid (fun w1 (hb : Below w.heap.size w w1) => (hS.1.kept hb).1)
  have HSL := Lib.hid hS.1.1.1
  have HCL := Lib.hid hx.len
  have HXS := Lib.hid hx.slen
  have HGC := Lib.hid hg.len
  have d9 : ¬ (9 : Int) < (s.sl : Int) := by omega
  simp only [turn_a okx] at TN
  simp only [tback_a okx] at T2N
  replace RX := Lib.hid RX
  replace TN := Lib.hid TN
  replace T2N := Lib.hid T2N
  obtain ⟨wA, hwA, J1, z1, n1⟩ := grid_box w (.slice x.sa x.sl x.sc) (.slice x.ca x.cl x.cc)
  obtain ⟨wB, hwB, J2, z2, n2⟩ := grid_box wA (.slice g.sa g.sl g.sc) (.slice g.ca g.cl g.cc)
  rw [n1.out] at J2
  have z := Lib.hid (z1.out.trans (z2.out.mono z1.out.size))
  have J := Lib.hid (J1.out.kept z2.out)
  obtain ⟨r1, hr1, gs1, zr1⟩ := gsl_made2 wB x g (hx.kept z.out) (hg.kept z.out)
  have SM := small9_any _ 2 2 _ r1 gs1.out.at_
  rw [hs] at SM
  have SM1 := Lib.hid SM
  clear SM hs hx hg hS hl hw9 okx okg lx lg q1
  obtain ⟨j0, j1, -, -⟩ := J.out.see
  obtain ⟨k0, k1, -, -⟩ := J2.out.see
  have hr1' := hr1.out
  go_enter Try.func6, Try.ntmps6
  go_upto_region 1 with (fail)
  rw [hwA.out, hwB.out]
  go_wp2_with fail
  clear hr1' j0 j1 k0 k1
  refine SM1.out.mono ?_
  rintro e w1 ⟨rfl, hb1⟩
  have q1 := zr1.out.trans (hb1.mono zr1.out.size)
  have b1 := Lib.hid (z.out.trans (q1.mono z.out.size))
  have JX := Lib.hid (J.out.kept q1)
  have JG := Lib.hid (J2.out.kept q1)
  clear hb1 q1 SM1 J1 J J2 gs1 zr1 hr1
  obtain ⟨j0, j1, -, -⟩ := JX.out.see
  go_wp2_with fail
  clear j0 j1
  refine (TN.out w1 b1.out).mono ?_
  rintro e y2 h'
  obtain ⟨T1, T2, T3, T4, rfl, GT, hb2⟩ := tres_open (n := 0) (m := 0) h' rfl rfl
  obtain ⟨w2, hw2, JT, zx, -⟩ := grid_box y2 (.slice T1 0 T2) (.slice T3 0 T4)
  have q := hb2.trans (zx.out.mono hb2.size)
  have b2 := Lib.hid (b1.out.trans (q.mono b1.out.size))
  replace JX := Lib.hid (JX.out.kept q)
  replace JG := Lib.hid (JG.out.kept q)
  have KT := Lib.hid (GT.kept zx.out)
  clear h' GT hb2 q zx TN
  go_upto_region 4 with (fail)
  rw [hw2.out]
  have SK := Lib.hid (fun w' (hb : Below w2.heap.size w2 w') => (show w'.cell? ⟨w.heap.size, 0, none⟩ = some (.slice x.sa x.sl x.sc) ∧ w'.cell? ⟨w.heap.size, 1, none⟩ = some (.slice x.ca x.cl x.cc) from ⟨(JX.out.kept hb).see.1, (JX.out.kept hb).see.2.1⟩))
  have t1 := Lib.hid (show Below w2.heap.size w2 w2.drew from (Below.refl _ _).drew)
  refine wp_region_held_drew (S := fun w' => w'.cell? ⟨w.heap.size, 0, none⟩ = some (.slice x.sa x.sl x.sc) ∧ w'.cell? ⟨w.heap.size, 1, none⟩ = some (.slice x.ca x.cl x.cc)) (by kernel_rfl) (SK.out _ t1.out) (fun hHeld => ?_)
  refine held_take 0 (.agg #[.slice x.sa x.sl x.sc, .slice x.ca x.cl x.cc]) rfl (by kernel_rfl) (by kernel_rfl) (by kernel_rfl) (fun _ _ _ h => h) (by rfl) (by intro w' hS; go_simp) (by assumption) ?_
  try simp only [Act.put, List.setIfInBounds_toArray, List.set_cons_zero, List.set_cons_succ]
  refine held_call 1 (by kernel_rfl) rfl (by rfl) (fun K hK => ?_)
  go_simp
  refine (RX.out w2.drew (b2.out.trans (t1.out.mono b2.out.size))).mono ?_
  rintro e wq1 ⟨rfl, hb⟩
  have bq1 := Lib.hid (t1.out.trans ((hb).mono t1.out.size))
  go_wp2_with fail
  refine hK.out _ _ (SK.out _ bq1.out) (fun hHeld => ?_)
  try simp only [Act.put, List.setIfInBounds_toArray, List.set_cons_zero, List.set_cons_succ]
  refine held_take 2 (.bool true) rfl (by kernel_rfl) (by kernel_rfl) (by kernel_rfl) (fun _ _ _ h => h) (by rfl) (by intro w' hS; go_simp) (by assumption) ?_
  try simp only [Act.put, List.setIfInBounds_toArray, List.set_cons_zero, List.set_cons_succ]
  refine held_take 3 (.bool true) rfl (by kernel_rfl) (by kernel_rfl) (by kernel_rfl) (fun _ _ _ h => h) (by rfl) (by intro w' hS; go_simp) (by assumption) ?_
  try simp only [Act.put, List.setIfInBounds_toArray, List.set_cons_zero, List.set_cons_succ]
  refine held_skip 4 rfl (by kernel_rfl) (by kernel_rfl) (by kernel_rfl) (fun _ _ _ h => h) (by rfl) (by assumption) ?_
  try simp only [Act.put, List.setIfInBounds_toArray, List.set_cons_zero, List.set_cons_succ]
  refine held_left 5 (by kernel_rfl) rfl (by rfl) (by assumption) ?_
  try simp only [Act.put, List.setIfInBounds_toArray, List.set_cons_zero, List.set_cons_succ]
  refine held_skip 6 rfl (by kernel_rfl) (by kernel_rfl) (by kernel_rfl) (fun _ _ _ h => h) (by rfl) (by assumption) ?_
  try simp only [Act.put, List.setIfInBounds_toArray, List.set_cons_zero, List.set_cons_succ]
  refine held_take 7 (.bool true) rfl (by kernel_rfl) (by kernel_rfl) (by kernel_rfl) (fun _ _ _ h => h) (by rfl) (by intro w' hS; go_simp) (by assumption) ?_
  try simp only [Act.put, List.setIfInBounds_toArray, List.set_cons_zero, List.set_cons_succ]
  refine held_take 8 (.bool true) rfl (by kernel_rfl) (by kernel_rfl) (by kernel_rfl) (fun _ _ _ h => h) (by rfl) (by intro w' hS; go_simp) (by assumption) ?_
  try simp only [Act.put, List.setIfInBounds_toArray, List.set_cons_zero, List.set_cons_succ]
  refine held_skip 9 rfl (by kernel_rfl) (by kernel_rfl) (by kernel_rfl) (fun _ _ _ h => h) (by rfl) (by assumption) ?_
  try simp only [Act.put, List.setIfInBounds_toArray, List.set_cons_zero, List.set_cons_succ]
  refine held_skip 11 rfl (by kernel_rfl) (by kernel_rfl) (by kernel_rfl) (fun _ _ _ h => h) (by rfl) (by assumption) ?_
  try simp only [Act.put, List.setIfInBounds_toArray, List.set_cons_zero, List.set_cons_succ]
  refine held_skip 12 rfl (by kernel_rfl) (by kernel_rfl) (by kernel_rfl) (fun _ _ _ h => h) (by rfl) (by assumption) ?_
  try simp only [Act.put, List.setIfInBounds_toArray, List.set_cons_zero, List.set_cons_succ]
  refine held_skip 13 rfl (by kernel_rfl) (by kernel_rfl) (by kernel_rfl) (fun _ _ _ h => h) (by rfl) (by assumption) ?_
  try simp only [Act.put, List.setIfInBounds_toArray, List.set_cons_zero, List.set_cons_succ]
  refine held_left 10 (by kernel_rfl) rfl (by rfl) (by assumption) ?_
  try simp only [Act.put, List.setIfInBounds_toArray, List.set_cons_zero, List.set_cons_succ]
  refine held_skip 14 rfl (by kernel_rfl) (by kernel_rfl) (by kernel_rfl) (fun _ _ _ h => h) (by rfl) (by assumption) ?_
  try simp only [Act.put, List.setIfInBounds_toArray, List.set_cons_zero, List.set_cons_succ]
  refine held_take 15 (.bool true) rfl (by kernel_rfl) (by kernel_rfl) (by kernel_rfl) (fun _ _ _ h => h) (by rfl) (by intro w' hS; go_simp) (by assumption) ?_
  try simp only [Act.put, List.setIfInBounds_toArray, List.set_cons_zero, List.set_cons_succ]
  refine wpAnyH_done (by kernel_rfl) ?_ _
  have b3 := Lib.hid (b2.out.trans (bq1.out.mono b2.out.size))
  have JX3 := Lib.hid (JX.out.kept bq1.out)
  have JG3 := Lib.hid (JG.out.kept bq1.out)
  have JT3 := Lib.hid (JT.out.kept bq1.out)
  have KT3 := Lib.hid (KT.out.kept bq1.out)
  clear JX JG JT KT SK
  obtain ⟨t0, t1', -, -⟩ := JT3.out.see
  obtain ⟨j0, j1, -, -⟩ := JX3.out.see
  obtain ⟨k0, k1, -, -⟩ := JG3.out.see
  go_wp2_with fail
  clear j0 j1 k0 k1 t0 t1'
  refine (T2N.out wq1 b3.out).mono ?_
  rintro e yb h'
  obtain ⟨V1, V2, V3, V4, rfl, GV, hb8⟩ := tres_open (n := 0) (m := 0) h' rfl rfl
  obtain ⟨w8, hw8, JV, zx, -⟩ := grid_box yb (.slice V1 0 V2) (.slice V3 0 V4)
  have q := hb8.trans (zx.out.mono hb8.size)
  have b8 := Lib.hid (b3.out.trans (q.mono b3.out.size))
  have JX8 := Lib.hid (JX3.out.kept q)
  have JG8 := Lib.hid (JG3.out.kept q)
  have KV8 := Lib.hid (GV.kept zx.out)
  clear h' GV hb8 q zx T2N JX3 JG3
  go_upto_region 17 with (fail)
  rw [hw8.out]
  obtain ⟨j0, j1, -, -⟩ := JX8.out.see
  go_wp2_with fail
  clear j0 j1
  refine (RX.out w8 b8.out).mono ?_
  rintro e w9 ⟨rfl, hb9⟩
  have b9 := Lib.hid (b8.out.trans (hb9.mono b8.out.size))
  have JX9 := Lib.hid (JX8.out.kept hb9)
  have JG9 := Lib.hid (JG8.out.kept hb9)
  have JV9 := Lib.hid (JV.out.kept hb9)
  have KV9 := Lib.hid (KV8.out.kept hb9)
  clear hb9 JX8 JG8 JV KV8
  obtain ⟨v0, v1, -, -⟩ := JV9.out.see
  go_wp2_with fail
  clear v0 v1
  refine (awake09_any _).mono ?_
  rintro e w20 ⟨rfl, hb20⟩
  have b20 := Lib.hid (b9.out.trans (hb20.mono b9.out.size))
  clear hb20
  go_wp2_with fail
  go_ret
  exact ⟨rfl, b20.out⟩

set_option maxRecDepth 100000 in
set_option maxHeartbeats 16000000 in
theorem turns_bb (x g s : TV) (w : World) (hx : Good x w) (hg : Good g w) (hS : s.At w ∧ s.CapS) (hs : small9 [x, g] = true) (hl : s.sl ≤ 9) (q1 : rightT x.ss x.cl = true) (q2 : rightS s.ss = false) (q4 : rightT g.ss g.cl = false) :
    Calls Try.prog 6 #[.agg #[.slice x.sa x.sl x.sc, .slice x.ca x.cl x.cc], .agg #[.slice g.sa g.sl g.sc, .slice g.ca g.cl g.cc], .slice s.sa s.sl s.sc] w fun e w' => e = .returned (.bool true) ∧ Below w.heap.size w w' := by
  have hw9 := small9_le hs
  have hxl : x.cl ≤ 1000 := by have := wtsM_mem (t := x) (ts := [x, g]) (by simp); omega
  have hgl : g.cl ≤ 1000 := by have := wtsM_mem (t := g) (ts := [x, g]) (by simp); omega
  have okx := hx.ok
  have okg := hg.ok
  rw [q1] at okx
  have lx : (pr x).2.length = x.cl := hx.len
  have lg : (pr g).2.length = g.cl := hg.len
  have RX := fun w1 (hb : Below w.heap.size w w1) => right9_any x.sa x.sl x.sc x.ss x.ca x.cl x.cc w1 (hx.kept hb).1.1 (by omega)
  rw [q1] at RX
  have TN := fun w1 (hb : Below w.heap.size w w1) => turn_any x s.sa s.sl s.sc s.ss w1 (hx.kept hb) (hS.1.kept hb).1 hxl
  have T2N := fun w1 (hb : Below w.heap.size w w1) => tback_any x g w1 (hx.kept hb) (hg.kept hb) hgl
  have HX := Lib.hid (fun w1 (hb : Below w.heap.size w w1) => hx.kept hb)
  have HG := Lib.hid (fun w1 (hb : Below w.heap.size w w1) => hg.kept hb)
  have HS := Lib.hid (fun w1 (hb : Below w.heap.size w w1) => (hS.1.kept hb).1)
  have HSL := Lib.hid hS.1.1.1
  have HCL := Lib.hid hx.len
  have HXS := Lib.hid hx.slen
  have HGC := Lib.hid hg.len
  have d9 : ¬ (9 : Int) < (s.sl : Int) := by omega
  have RS := fun w1 (hb : Below w.heap.size w w1) => (refshape_any s.sa s.sl s.sc s.ss w1 (hS.1.kept hb).1).mono (fun _ w' (h : _ ∧ w1 = w') => (⟨h.1, h.2 ▸ Below.refl _ _⟩ : _ ∧ Below w1.heap.size w1 w'))
  rw [q2] at RS
  simp only [turn_b (s := s.ss) okx (by unfold rightT; rw [q2]; rfl)] at TN
  rw [q4] at okg
  have RG := fun w1 (hb : Below w.heap.size w w1) => right9_any g.sa g.sl g.sc g.ss g.ca g.cl g.cc w1 (hg.kept hb).1.1 (by omega)
  rw [q4] at RG
  replace RG := Lib.hid RG
  simp only [tback_t okx, turn_a okg] at T2N
  replace RX := Lib.hid RX
  replace TN := Lib.hid TN
  replace T2N := Lib.hid T2N
  replace RS := Lib.hid RS
  obtain ⟨wA, hwA, J1, z1, n1⟩ := grid_box w (.slice x.sa x.sl x.sc) (.slice x.ca x.cl x.cc)
  obtain ⟨wB, hwB, J2, z2, n2⟩ := grid_box wA (.slice g.sa g.sl g.sc) (.slice g.ca g.cl g.cc)
  rw [n1.out] at J2
  have z := Lib.hid (z1.out.trans (z2.out.mono z1.out.size))
  have J := Lib.hid (J1.out.kept z2.out)
  obtain ⟨r1, hr1, gs1, zr1⟩ := gsl_made2 wB x g (hx.kept z.out) (hg.kept z.out)
  have SM := small9_any _ 2 2 _ r1 gs1.out.at_
  rw [hs] at SM
  have SM1 := Lib.hid SM
  clear SM hs hx hg hS hl hw9 okx okg lx lg q1 q2 q4
  obtain ⟨j0, j1, -, -⟩ := J.out.see
  obtain ⟨k0, k1, -, -⟩ := J2.out.see
  have hr1' := hr1.out
  go_enter Try.func6, Try.ntmps6
  go_upto_region 1 with (fail)
  rw [hwA.out, hwB.out]
  go_wp2_with fail
  clear hr1' j0 j1 k0 k1
  refine SM1.out.mono ?_
  rintro e w1 ⟨rfl, hb1⟩
  have q1 := zr1.out.trans (hb1.mono zr1.out.size)
  have b1 := Lib.hid (z.out.trans (q1.mono z.out.size))
  have JX := Lib.hid (J.out.kept q1)
  have JG := Lib.hid (J2.out.kept q1)
  clear hb1 q1 SM1 J1 J J2 gs1 zr1 hr1
  obtain ⟨j0, j1, -, -⟩ := JX.out.see
  go_wp2_with fail
  clear j0 j1
  refine (TN.out w1 b1.out).mono ?_
  rintro e y2 h'
  obtain ⟨T1, T2, T3, T4, rfl, GT, hb2⟩ := tres_open (n := 0) (m := 0) h' rfl rfl
  obtain ⟨w2, hw2, JT, zx, -⟩ := grid_box y2 (.slice T1 0 T2) (.slice T3 0 T4)
  have q := hb2.trans (zx.out.mono hb2.size)
  have b2 := Lib.hid (b1.out.trans (q.mono b1.out.size))
  replace JX := Lib.hid (JX.out.kept q)
  replace JG := Lib.hid (JG.out.kept q)
  have KT := Lib.hid (GT.kept zx.out)
  clear h' GT hb2 q zx TN
  go_upto_region 4 with (fail)
  rw [hw2.out]
  have SK := Lib.hid (fun w' (hb : Below w2.heap.size w2 w') => (show w'.cell? ⟨w.heap.size, 0, none⟩ = some (.slice x.sa x.sl x.sc) ∧ w'.cell? ⟨w.heap.size, 1, none⟩ = some (.slice x.ca x.cl x.cc) from ⟨(JX.out.kept hb).see.1, (JX.out.kept hb).see.2.1⟩))
  have t1 := Lib.hid (show Below w2.heap.size w2 w2.drew from (Below.refl _ _).drew)
  refine wp_region_held_drew (S := fun w' => w'.cell? ⟨w.heap.size, 0, none⟩ = some (.slice x.sa x.sl x.sc) ∧ w'.cell? ⟨w.heap.size, 1, none⟩ = some (.slice x.ca x.cl x.cc)) (by kernel_rfl) (SK.out _ t1.out) (fun hHeld => ?_)
  refine held_take 0 (.agg #[.slice x.sa x.sl x.sc, .slice x.ca x.cl x.cc]) rfl (by kernel_rfl) (by kernel_rfl) (by kernel_rfl) (fun _ _ _ h => h) (by rfl) (by intro w' hS; go_simp) (by assumption) ?_
  try simp only [Act.put, List.setIfInBounds_toArray, List.set_cons_zero, List.set_cons_succ]
  refine held_call 1 (by kernel_rfl) rfl (by rfl) (fun K hK => ?_)
  go_simp
  refine (RX.out w2.drew (b2.out.trans (t1.out.mono b2.out.size))).mono ?_
  rintro e wq1 ⟨rfl, hb⟩
  have bq1 := Lib.hid (t1.out.trans ((hb).mono t1.out.size))
  go_wp2_with fail
  refine hK.out _ _ (SK.out _ bq1.out) (fun hHeld => ?_)
  try simp only [Act.put, List.setIfInBounds_toArray, List.set_cons_zero, List.set_cons_succ]
  refine held_take 2 (.bool false) rfl (by kernel_rfl) (by kernel_rfl) (by kernel_rfl) (fun _ _ _ h => h) (by rfl) (by intro w' hS; go_simp) (by assumption) ?_
  try simp only [Act.put, List.setIfInBounds_toArray, List.set_cons_zero, List.set_cons_succ]
  refine held_take 3 (.bool false) rfl (by kernel_rfl) (by kernel_rfl) (by kernel_rfl) (fun _ _ _ h => h) (by rfl) (by intro w' hS; go_simp) (by assumption) ?_
  try simp only [Act.put, List.setIfInBounds_toArray, List.set_cons_zero, List.set_cons_succ]
  refine held_take 4 (.slice s.sa s.sl s.sc) rfl (by kernel_rfl) (by kernel_rfl) (by kernel_rfl) (fun _ _ _ h => h) (by rfl) (by intro w' hS; go_simp) (by assumption) ?_
  try simp only [Act.put, List.setIfInBounds_toArray, List.set_cons_zero, List.set_cons_succ]
  refine held_call 5 (by kernel_rfl) rfl (by rfl) (fun K hK => ?_)
  go_simp
  refine (RS.out wq1 (b2.out.trans (bq1.out.mono b2.out.size))).mono ?_
  rintro e wq2 ⟨rfl, hb⟩
  have bq2 := Lib.hid (bq1.out.trans ((hb).mono bq1.out.size))
  go_wp2_with fail
  refine hK.out _ _ (SK.out _ bq2.out) (fun hHeld => ?_)
  try simp only [Act.put, List.setIfInBounds_toArray, List.set_cons_zero, List.set_cons_succ]
  refine held_take 6 (.bool true) rfl (by kernel_rfl) (by kernel_rfl) (by kernel_rfl) (fun _ _ _ h => h) (by rfl) (by intro w' hS; go_simp) (by assumption) ?_
  try simp only [Act.put, List.setIfInBounds_toArray, List.set_cons_zero, List.set_cons_succ]
  refine held_take 7 (.bool true) rfl (by kernel_rfl) (by kernel_rfl) (by kernel_rfl) (fun _ _ _ h => h) (by rfl) (by intro w' hS; go_simp) (by assumption) ?_
  try simp only [Act.put, List.setIfInBounds_toArray, List.set_cons_zero, List.set_cons_succ]
  refine held_take 8 (.bool true) rfl (by kernel_rfl) (by kernel_rfl) (by kernel_rfl) (fun _ _ _ h => h) (by rfl) (by intro w' hS; go_simp) (by assumption) ?_
  try simp only [Act.put, List.setIfInBounds_toArray, List.set_cons_zero, List.set_cons_succ]
  refine held_skip 9 rfl (by kernel_rfl) (by kernel_rfl) (by kernel_rfl) (fun _ _ _ h => h) (by rfl) (by assumption) ?_
  try simp only [Act.put, List.setIfInBounds_toArray, List.set_cons_zero, List.set_cons_succ]
  refine held_skip 11 rfl (by kernel_rfl) (by kernel_rfl) (by kernel_rfl) (fun _ _ _ h => h) (by rfl) (by assumption) ?_
  try simp only [Act.put, List.setIfInBounds_toArray, List.set_cons_zero, List.set_cons_succ]
  refine held_skip 12 rfl (by kernel_rfl) (by kernel_rfl) (by kernel_rfl) (fun _ _ _ h => h) (by rfl) (by assumption) ?_
  try simp only [Act.put, List.setIfInBounds_toArray, List.set_cons_zero, List.set_cons_succ]
  refine held_skip 13 rfl (by kernel_rfl) (by kernel_rfl) (by kernel_rfl) (fun _ _ _ h => h) (by rfl) (by assumption) ?_
  try simp only [Act.put, List.setIfInBounds_toArray, List.set_cons_zero, List.set_cons_succ]
  refine held_left 10 (by kernel_rfl) rfl (by rfl) (by assumption) ?_
  try simp only [Act.put, List.setIfInBounds_toArray, List.set_cons_zero, List.set_cons_succ]
  refine held_skip 14 rfl (by kernel_rfl) (by kernel_rfl) (by kernel_rfl) (fun _ _ _ h => h) (by rfl) (by assumption) ?_
  try simp only [Act.put, List.setIfInBounds_toArray, List.set_cons_zero, List.set_cons_succ]
  refine held_take 15 (.bool true) rfl (by kernel_rfl) (by kernel_rfl) (by kernel_rfl) (fun _ _ _ h => h) (by rfl) (by intro w' hS; go_simp) (by assumption) ?_
  try simp only [Act.put, List.setIfInBounds_toArray, List.set_cons_zero, List.set_cons_succ]
  refine wpAnyH_done (by kernel_rfl) ?_ _
  have b3 := Lib.hid (b2.out.trans (bq2.out.mono b2.out.size))
  have JX3 := Lib.hid (JX.out.kept bq2.out)
  have JG3 := Lib.hid (JG.out.kept bq2.out)
  have JT3 := Lib.hid (JT.out.kept bq2.out)
  have KT3 := Lib.hid (KT.out.kept bq2.out)
  clear JX JG JT KT SK
  obtain ⟨t0, t1', -, -⟩ := JT3.out.see
  obtain ⟨j0, j1, -, -⟩ := JX3.out.see
  obtain ⟨k0, k1, -, -⟩ := JG3.out.see
  go_wp2_with fail
  clear j0 j1 k0 k1 t0 t1'
  refine (T2N.out wq2 b3.out).mono ?_
  rintro e yb h'
  obtain ⟨V1, V2, V3, V4, rfl, GV, hb8⟩ := tres_open (n := 0) (m := 0) h' rfl rfl
  obtain ⟨w8, hw8, JV, zx, -⟩ := grid_box yb (.slice V1 0 V2) (.slice V3 0 V4)
  have q := hb8.trans (zx.out.mono hb8.size)
  have b8 := Lib.hid (b3.out.trans (q.mono b3.out.size))
  have JX8 := Lib.hid (JX3.out.kept q)
  have JG8 := Lib.hid (JG3.out.kept q)
  have KV8 := Lib.hid (GV.kept zx.out)
  clear h' GV hb8 q zx T2N JX3 JG3
  go_upto_region 17 with (fail)
  rw [hw8.out]
  obtain ⟨j0, j1, -, -⟩ := JX8.out.see
  go_wp2_with fail
  clear j0 j1
  refine (RX.out w8 b8.out).mono ?_
  rintro e w9 ⟨rfl, hb9⟩
  have b9 := Lib.hid (b8.out.trans (hb9.mono b8.out.size))
  have JX9 := Lib.hid (JX8.out.kept hb9)
  have JG9 := Lib.hid (JG8.out.kept hb9)
  have JV9 := Lib.hid (JV.out.kept hb9)
  have KV9 := Lib.hid (KV8.out.kept hb9)
  clear hb9 JX8 JG8 JV KV8
  obtain ⟨k0, k1, -, -⟩ := JG9.out.see
  go_wp2_with fail
  clear k0 k1
  refine (RG.out w9 b9.out).mono ?_
  rintro e w10 ⟨rfl, hb10⟩
  have b10 := Lib.hid (b9.out.trans (hb10.mono b9.out.size))
  replace JX9 := Lib.hid (JX9.out.kept hb10)
  replace JG9 := Lib.hid (JG9.out.kept hb10)
  replace JV9 := Lib.hid (JV9.out.kept hb10)
  replace KV9 := Lib.hid (KV9.out.kept hb10)
  clear hb10
  obtain ⟨v0, v1, -, -⟩ := JV9.out.see
  go_wp2_with fail
  clear v0 v1
  refine (awake09_any _).mono ?_
  rintro e w20 ⟨rfl, hb20⟩
  have b20 := Lib.hid (b10.out.trans (hb20.mono b10.out.size))
  clear hb20
  go_wp2_with fail
  go_ret
  exact ⟨rfl, b20.out⟩

set_option maxRecDepth 100000 in
set_option maxHeartbeats 16000000 in
theorem turns_bc (x g s : TV) (w : World) (hx : Good x w) (hg : Good g w) (hS : s.At w ∧ s.CapS) (hs : small9 [x, g] = true) (hl : s.sl ≤ 9) (q1 : rightT x.ss x.cl = true) (q2 : rightS s.ss = false) (q4 : rightT g.ss g.cl = true) (q5 : g.cl ≠ x.cl) :
    Calls Try.prog 6 #[.agg #[.slice x.sa x.sl x.sc, .slice x.ca x.cl x.cc], .agg #[.slice g.sa g.sl g.sc, .slice g.ca g.cl g.cc], .slice s.sa s.sl s.sc] w fun e w' => e = .returned (.bool true) ∧ Below w.heap.size w w' := by
  have hw9 := small9_le hs
  have hxl : x.cl ≤ 1000 := by have := wtsM_mem (t := x) (ts := [x, g]) (by simp); omega
  have hgl : g.cl ≤ 1000 := by have := wtsM_mem (t := g) (ts := [x, g]) (by simp); omega
  have okx := hx.ok
  have okg := hg.ok
  rw [q1] at okx
  have lx : (pr x).2.length = x.cl := hx.len
  have lg : (pr g).2.length = g.cl := hg.len
  have RX := fun w1 (hb : Below w.heap.size w w1) => right9_any x.sa x.sl x.sc x.ss x.ca x.cl x.cc w1 (hx.kept hb).1.1 (by omega)
  rw [q1] at RX
  have TN := fun w1 (hb : Below w.heap.size w w1) => turn_any x s.sa s.sl s.sc s.ss w1 (hx.kept hb) (hS.1.kept hb).1 hxl
  have T2N := fun w1 (hb : Below w.heap.size w w1) => tback_any x g w1 (hx.kept hb) (hg.kept hb) hgl
  have HX := Lib.hid (fun w1 (hb : Below w.heap.size w w1) => hx.kept hb)
  have HG := Lib.hid (fun w1 (hb : Below w.heap.size w w1) => hg.kept hb)
  have HS := Lib.hid (fun w1 (hb : Below w.heap.size w w1) => (hS.1.kept hb).1)
  have HSL := Lib.hid hS.1.1.1
  have HCL := Lib.hid hx.len
  have HXS := Lib.hid hx.slen
  have HGC := Lib.hid hg.len
  have d9 : ¬ (9 : Int) < (s.sl : Int) := by omega
  have RS := fun w1 (hb : Below w.heap.size w w1) => (refshape_any s.sa s.sl s.sc s.ss w1 (hS.1.kept hb).1).mono (fun _ w' (h : _ ∧ w1 = w') => (⟨h.1, h.2 ▸ Below.refl _ _⟩ : _ ∧ Below w1.heap.size w1 w'))
  rw [q2] at RS
  simp only [turn_b (s := s.ss) okx (by unfold rightT; rw [q2]; rfl)] at TN
  rw [q4] at okg
  have RG := fun w1 (hb : Below w.heap.size w w1) => right9_any g.sa g.sl g.sc g.ss g.ca g.cl g.cc w1 (hg.kept hb).1.1 (by omega)
  rw [q4] at RG
  replace RG := Lib.hid RG
  simp only [tback_t okx, turn_b (s := (pr x).1) okg (by rw [lg]; exact rightT_other q1 q5)] at T2N
  have dg : ((x.cl : Int) != (g.cl : Int)) = true := bne_iff_ne.2 (by omega)
  replace RX := Lib.hid RX
  replace TN := Lib.hid TN
  replace T2N := Lib.hid T2N
  replace RS := Lib.hid RS
  obtain ⟨wA, hwA, J1, z1, n1⟩ := grid_box w (.slice x.sa x.sl x.sc) (.slice x.ca x.cl x.cc)
  obtain ⟨wB, hwB, J2, z2, n2⟩ := grid_box wA (.slice g.sa g.sl g.sc) (.slice g.ca g.cl g.cc)
  rw [n1.out] at J2
  have z := Lib.hid (z1.out.trans (z2.out.mono z1.out.size))
  have J := Lib.hid (J1.out.kept z2.out)
  obtain ⟨r1, hr1, gs1, zr1⟩ := gsl_made2 wB x g (hx.kept z.out) (hg.kept z.out)
  have SM := small9_any _ 2 2 _ r1 gs1.out.at_
  rw [hs] at SM
  have SM1 := Lib.hid SM
  clear SM hs hx hg hS hl hw9 okx okg lx lg q1 q2 q4 q5
  obtain ⟨j0, j1, -, -⟩ := J.out.see
  obtain ⟨k0, k1, -, -⟩ := J2.out.see
  have hr1' := hr1.out
  go_enter Try.func6, Try.ntmps6
  go_upto_region 1 with (fail)
  rw [hwA.out, hwB.out]
  go_wp2_with fail
  clear hr1' j0 j1 k0 k1
  refine SM1.out.mono ?_
  rintro e w1 ⟨rfl, hb1⟩
  have q1 := zr1.out.trans (hb1.mono zr1.out.size)
  have b1 := Lib.hid (z.out.trans (q1.mono z.out.size))
  have JX := Lib.hid (J.out.kept q1)
  have JG := Lib.hid (J2.out.kept q1)
  clear hb1 q1 SM1 J1 J J2 gs1 zr1 hr1
  obtain ⟨j0, j1, -, -⟩ := JX.out.see
  go_wp2_with fail
  clear j0 j1
  refine (TN.out w1 b1.out).mono ?_
  rintro e y2 h'
  obtain ⟨T1, T2, T3, T4, rfl, GT, hb2⟩ := tres_open (n := 0) (m := 0) h' rfl rfl
  obtain ⟨w2, hw2, JT, zx, -⟩ := grid_box y2 (.slice T1 0 T2) (.slice T3 0 T4)
  have q := hb2.trans (zx.out.mono hb2.size)
  have b2 := Lib.hid (b1.out.trans (q.mono b1.out.size))
  replace JX := Lib.hid (JX.out.kept q)
  replace JG := Lib.hid (JG.out.kept q)
  have KT := Lib.hid (GT.kept zx.out)
  clear h' GT hb2 q zx TN
  go_upto_region 4 with (fail)
  rw [hw2.out]
  have SK := Lib.hid (fun w' (hb : Below w2.heap.size w2 w') => (show w'.cell? ⟨w.heap.size, 0, none⟩ = some (.slice x.sa x.sl x.sc) ∧ w'.cell? ⟨w.heap.size, 1, none⟩ = some (.slice x.ca x.cl x.cc) from ⟨(JX.out.kept hb).see.1, (JX.out.kept hb).see.2.1⟩))
  have t1 := Lib.hid (show Below w2.heap.size w2 w2.drew from (Below.refl _ _).drew)
  refine wp_region_held_drew (S := fun w' => w'.cell? ⟨w.heap.size, 0, none⟩ = some (.slice x.sa x.sl x.sc) ∧ w'.cell? ⟨w.heap.size, 1, none⟩ = some (.slice x.ca x.cl x.cc)) (by kernel_rfl) (SK.out _ t1.out) (fun hHeld => ?_)
  refine held_take 0 (.agg #[.slice x.sa x.sl x.sc, .slice x.ca x.cl x.cc]) rfl (by kernel_rfl) (by kernel_rfl) (by kernel_rfl) (fun _ _ _ h => h) (by rfl) (by intro w' hS; go_simp) (by assumption) ?_
  try simp only [Act.put, List.setIfInBounds_toArray, List.set_cons_zero, List.set_cons_succ]
  refine held_call 1 (by kernel_rfl) rfl (by rfl) (fun K hK => ?_)
  go_simp
  refine (RX.out w2.drew (b2.out.trans (t1.out.mono b2.out.size))).mono ?_
  rintro e wq1 ⟨rfl, hb⟩
  have bq1 := Lib.hid (t1.out.trans ((hb).mono t1.out.size))
  go_wp2_with fail
  refine hK.out _ _ (SK.out _ bq1.out) (fun hHeld => ?_)
  try simp only [Act.put, List.setIfInBounds_toArray, List.set_cons_zero, List.set_cons_succ]
  refine held_take 2 (.bool false) rfl (by kernel_rfl) (by kernel_rfl) (by kernel_rfl) (fun _ _ _ h => h) (by rfl) (by intro w' hS; go_simp) (by assumption) ?_
  try simp only [Act.put, List.setIfInBounds_toArray, List.set_cons_zero, List.set_cons_succ]
  refine held_take 3 (.bool false) rfl (by kernel_rfl) (by kernel_rfl) (by kernel_rfl) (fun _ _ _ h => h) (by rfl) (by intro w' hS; go_simp) (by assumption) ?_
  try simp only [Act.put, List.setIfInBounds_toArray, List.set_cons_zero, List.set_cons_succ]
  refine held_take 4 (.slice s.sa s.sl s.sc) rfl (by kernel_rfl) (by kernel_rfl) (by kernel_rfl) (fun _ _ _ h => h) (by rfl) (by intro w' hS; go_simp) (by assumption) ?_
  try simp only [Act.put, List.setIfInBounds_toArray, List.set_cons_zero, List.set_cons_succ]
  refine held_call 5 (by kernel_rfl) rfl (by rfl) (fun K hK => ?_)
  go_simp
  refine (RS.out wq1 (b2.out.trans (bq1.out.mono b2.out.size))).mono ?_
  rintro e wq2 ⟨rfl, hb⟩
  have bq2 := Lib.hid (bq1.out.trans ((hb).mono bq1.out.size))
  go_wp2_with fail
  refine hK.out _ _ (SK.out _ bq2.out) (fun hHeld => ?_)
  try simp only [Act.put, List.setIfInBounds_toArray, List.set_cons_zero, List.set_cons_succ]
  refine held_take 6 (.bool true) rfl (by kernel_rfl) (by kernel_rfl) (by kernel_rfl) (fun _ _ _ h => h) (by rfl) (by intro w' hS; go_simp) (by assumption) ?_
  try simp only [Act.put, List.setIfInBounds_toArray, List.set_cons_zero, List.set_cons_succ]
  refine held_take 7 (.bool true) rfl (by kernel_rfl) (by kernel_rfl) (by kernel_rfl) (fun _ _ _ h => h) (by rfl) (by intro w' hS; go_simp) (by assumption) ?_
  try simp only [Act.put, List.setIfInBounds_toArray, List.set_cons_zero, List.set_cons_succ]
  refine held_take 8 (.bool true) rfl (by kernel_rfl) (by kernel_rfl) (by kernel_rfl) (fun _ _ _ h => h) (by rfl) (by intro w' hS; go_simp) (by assumption) ?_
  try simp only [Act.put, List.setIfInBounds_toArray, List.set_cons_zero, List.set_cons_succ]
  refine held_skip 9 rfl (by kernel_rfl) (by kernel_rfl) (by kernel_rfl) (fun _ _ _ h => h) (by rfl) (by assumption) ?_
  try simp only [Act.put, List.setIfInBounds_toArray, List.set_cons_zero, List.set_cons_succ]
  refine held_skip 11 rfl (by kernel_rfl) (by kernel_rfl) (by kernel_rfl) (fun _ _ _ h => h) (by rfl) (by assumption) ?_
  try simp only [Act.put, List.setIfInBounds_toArray, List.set_cons_zero, List.set_cons_succ]
  refine held_skip 12 rfl (by kernel_rfl) (by kernel_rfl) (by kernel_rfl) (fun _ _ _ h => h) (by rfl) (by assumption) ?_
  try simp only [Act.put, List.setIfInBounds_toArray, List.set_cons_zero, List.set_cons_succ]
  refine held_skip 13 rfl (by kernel_rfl) (by kernel_rfl) (by kernel_rfl) (fun _ _ _ h => h) (by rfl) (by assumption) ?_
  try simp only [Act.put, List.setIfInBounds_toArray, List.set_cons_zero, List.set_cons_succ]
  refine held_left 10 (by kernel_rfl) rfl (by rfl) (by assumption) ?_
  try simp only [Act.put, List.setIfInBounds_toArray, List.set_cons_zero, List.set_cons_succ]
  refine held_skip 14 rfl (by kernel_rfl) (by kernel_rfl) (by kernel_rfl) (fun _ _ _ h => h) (by rfl) (by assumption) ?_
  try simp only [Act.put, List.setIfInBounds_toArray, List.set_cons_zero, List.set_cons_succ]
  refine held_take 15 (.bool true) rfl (by kernel_rfl) (by kernel_rfl) (by kernel_rfl) (fun _ _ _ h => h) (by rfl) (by intro w' hS; go_simp) (by assumption) ?_
  try simp only [Act.put, List.setIfInBounds_toArray, List.set_cons_zero, List.set_cons_succ]
  refine wpAnyH_done (by kernel_rfl) ?_ _
  have b3 := Lib.hid (b2.out.trans (bq2.out.mono b2.out.size))
  have JX3 := Lib.hid (JX.out.kept bq2.out)
  have JG3 := Lib.hid (JG.out.kept bq2.out)
  have JT3 := Lib.hid (JT.out.kept bq2.out)
  have KT3 := Lib.hid (KT.out.kept bq2.out)
  clear JX JG JT KT SK
  obtain ⟨t0, t1', -, -⟩ := JT3.out.see
  obtain ⟨j0, j1, -, -⟩ := JX3.out.see
  obtain ⟨k0, k1, -, -⟩ := JG3.out.see
  go_wp2_with fail
  clear j0 j1 k0 k1 t0 t1'
  refine (T2N.out wq2 b3.out).mono ?_
  rintro e yb h'
  obtain ⟨V1, V2, V3, V4, rfl, GV, hb8⟩ := tres_open (n := 0) (m := 0) h' rfl rfl
  obtain ⟨w8, hw8, JV, zx, -⟩ := grid_box yb (.slice V1 0 V2) (.slice V3 0 V4)
  have q := hb8.trans (zx.out.mono hb8.size)
  have b8 := Lib.hid (b3.out.trans (q.mono b3.out.size))
  have JX8 := Lib.hid (JX3.out.kept q)
  have JG8 := Lib.hid (JG3.out.kept q)
  have KV8 := Lib.hid (GV.kept zx.out)
  clear h' GV hb8 q zx T2N JX3 JG3
  go_upto_region 17 with (fail)
  rw [hw8.out]
  obtain ⟨j0, j1, -, -⟩ := JX8.out.see
  go_wp2_with fail
  clear j0 j1
  refine (RX.out w8 b8.out).mono ?_
  rintro e w9 ⟨rfl, hb9⟩
  have b9 := Lib.hid (b8.out.trans (hb9.mono b8.out.size))
  have JX9 := Lib.hid (JX8.out.kept hb9)
  have JG9 := Lib.hid (JG8.out.kept hb9)
  have JV9 := Lib.hid (JV.out.kept hb9)
  have KV9 := Lib.hid (KV8.out.kept hb9)
  clear hb9 JX8 JG8 JV KV8
  obtain ⟨k0, k1, -, -⟩ := JG9.out.see
  go_wp2_with fail
  clear k0 k1
  refine (RG.out w9 b9.out).mono ?_
  rintro e w10 ⟨rfl, hb10⟩
  have b10 := Lib.hid (b9.out.trans (hb10.mono b9.out.size))
  replace JX9 := Lib.hid (JX9.out.kept hb10)
  replace JG9 := Lib.hid (JG9.out.kept hb10)
  replace JV9 := Lib.hid (JV9.out.kept hb10)
  replace KV9 := Lib.hid (KV9.out.kept hb10)
  clear hb10
  obtain ⟨j0, j1, -, -⟩ := JX9.out.see
  obtain ⟨k0, k1, -, -⟩ := JG9.out.see
  obtain ⟨v0, v1, -, -⟩ := JV9.out.see
  go_wp2_with fail
  clear v0 v1 j0 j1 k0 k1
  refine (awake09_any _).mono ?_
  rintro e w20 ⟨rfl, hb20⟩
  have b20 := Lib.hid (b10.out.trans (hb20.mono b10.out.size))
  clear hb20
  go_wp2_with fail
  go_ret
  exact ⟨rfl, b20.out⟩

set_option maxRecDepth 100000 in
set_option maxHeartbeats 16000000 in
theorem turns_bo (x g s : TV) (w : World) (hx : Good x w) (hg : Good g w) (hS : s.At w ∧ s.CapS) (hs : small9 [x, g] = true) (hl : s.sl ≤ 9) (q1 : rightT x.ss x.cl = true) (q2 : rightS s.ss = false) (q4 : rightT g.ss g.cl = true) (q5 : g.cl = x.cl) :
    Calls Try.prog 6 #[.agg #[.slice x.sa x.sl x.sc, .slice x.ca x.cl x.cc], .agg #[.slice g.sa g.sl g.sc, .slice g.ca g.cl g.cc], .slice s.sa s.sl s.sc] w fun e w' => e = .returned (.bool true) ∧ Below w.heap.size w w' := by
  have hw9 := small9_le hs
  have hxl : x.cl ≤ 1000 := by have := wtsM_mem (t := x) (ts := [x, g]) (by simp); omega
  have hgl : g.cl ≤ 1000 := by have := wtsM_mem (t := g) (ts := [x, g]) (by simp); omega
  have okx := hx.ok
  have okg := hg.ok
  rw [q1] at okx
  have lx : (pr x).2.length = x.cl := hx.len
  have lg : (pr g).2.length = g.cl := hg.len
  have RX := fun w1 (hb : Below w.heap.size w w1) => right9_any x.sa x.sl x.sc x.ss x.ca x.cl x.cc w1 (hx.kept hb).1.1 (by omega)
  rw [q1] at RX
  have TN := fun w1 (hb : Below w.heap.size w w1) => turn_any x s.sa s.sl s.sc s.ss w1 (hx.kept hb) (hS.1.kept hb).1 hxl
  have T2N := fun w1 (hb : Below w.heap.size w w1) => tback_any x g w1 (hx.kept hb) (hg.kept hb) hgl
  have HX := Lib.hid (fun w1 (hb : Below w.heap.size w w1) => hx.kept hb)
  have HG := Lib.hid (fun w1 (hb : Below w.heap.size w w1) => hg.kept hb)
  have HS := Lib.hid (fun w1 (hb : Below w.heap.size w w1) => (hS.1.kept hb).1)
  have HSL := Lib.hid hS.1.1.1
  have HCL := Lib.hid hx.len
  have HXS := Lib.hid hx.slen
  have HGC := Lib.hid hg.len
  have d9 : ¬ (9 : Int) < (s.sl : Int) := by omega
  have RS := fun w1 (hb : Below w.heap.size w w1) => (refshape_any s.sa s.sl s.sc s.ss w1 (hS.1.kept hb).1).mono (fun _ w' (h : _ ∧ w1 = w') => (⟨h.1, h.2 ▸ Below.refl _ _⟩ : _ ∧ Below w1.heap.size w1 w'))
  rw [q2] at RS
  simp only [turn_b (s := s.ss) okx (by unfold rightT; rw [q2]; rfl)] at TN
  rw [q4] at okg
  have RG := fun w1 (hb : Below w.heap.size w w1) => right9_any g.sa g.sl g.sc g.ss g.ca g.cl g.cc w1 (hg.kept hb).1.1 (by omega)
  rw [q4] at RG
  replace RG := Lib.hid RG
  simp only [tback_t okx, turn_o (s := (pr x).1) okg (by rw [lg, q5]; exact q1)] at T2N
  replace T2N : ∀ w1, Below w.heap.size w w1 → Calls _ _ _ w1 (TRes w1 (0, (x.ss, g.cs))) := T2N
  have dg : ((x.cl : Int) != (g.cl : Int)) = false := by rw [q5]; simp
  replace RX := Lib.hid RX
  replace TN := Lib.hid TN
  replace T2N := Lib.hid T2N
  replace RS := Lib.hid RS
  obtain ⟨wA, hwA, J1, z1, n1⟩ := grid_box w (.slice x.sa x.sl x.sc) (.slice x.ca x.cl x.cc)
  obtain ⟨wB, hwB, J2, z2, n2⟩ := grid_box wA (.slice g.sa g.sl g.sc) (.slice g.ca g.cl g.cc)
  rw [n1.out] at J2
  have z := Lib.hid (z1.out.trans (z2.out.mono z1.out.size))
  have J := Lib.hid (J1.out.kept z2.out)
  obtain ⟨r1, hr1, gs1, zr1⟩ := gsl_made2 wB x g (hx.kept z.out) (hg.kept z.out)
  have SM := small9_any _ 2 2 _ r1 gs1.out.at_
  rw [hs] at SM
  have SM1 := Lib.hid SM
  clear SM hs hx hg hS hl hw9 okx okg lx lg q1 q2 q4 q5
  obtain ⟨j0, j1, -, -⟩ := J.out.see
  obtain ⟨k0, k1, -, -⟩ := J2.out.see
  have hr1' := hr1.out
  go_enter Try.func6, Try.ntmps6
  go_upto_region 1 with (fail)
  rw [hwA.out, hwB.out]
  go_wp2_with fail
  clear hr1' j0 j1 k0 k1
  refine SM1.out.mono ?_
  rintro e w1 ⟨rfl, hb1⟩
  have q1 := zr1.out.trans (hb1.mono zr1.out.size)
  have b1 := Lib.hid (z.out.trans (q1.mono z.out.size))
  have JX := Lib.hid (J.out.kept q1)
  have JG := Lib.hid (J2.out.kept q1)
  clear hb1 q1 SM1 J1 J J2 gs1 zr1 hr1
  obtain ⟨j0, j1, -, -⟩ := JX.out.see
  go_wp2_with fail
  clear j0 j1
  refine (TN.out w1 b1.out).mono ?_
  rintro e y2 h'
  obtain ⟨T1, T2, T3, T4, rfl, GT, hb2⟩ := tres_open (n := 0) (m := 0) h' rfl rfl
  obtain ⟨w2, hw2, JT, zx, -⟩ := grid_box y2 (.slice T1 0 T2) (.slice T3 0 T4)
  have q := hb2.trans (zx.out.mono hb2.size)
  have b2 := Lib.hid (b1.out.trans (q.mono b1.out.size))
  replace JX := Lib.hid (JX.out.kept q)
  replace JG := Lib.hid (JG.out.kept q)
  have KT := Lib.hid (GT.kept zx.out)
  clear h' GT hb2 q zx TN
  go_upto_region 4 with (fail)
  rw [hw2.out]
  have SK := Lib.hid (fun w' (hb : Below w2.heap.size w2 w') => (show w'.cell? ⟨w.heap.size, 0, none⟩ = some (.slice x.sa x.sl x.sc) ∧ w'.cell? ⟨w.heap.size, 1, none⟩ = some (.slice x.ca x.cl x.cc) from ⟨(JX.out.kept hb).see.1, (JX.out.kept hb).see.2.1⟩))
  have t1 := Lib.hid (show Below w2.heap.size w2 w2.drew from (Below.refl _ _).drew)
  refine wp_region_held_drew (S := fun w' => w'.cell? ⟨w.heap.size, 0, none⟩ = some (.slice x.sa x.sl x.sc) ∧ w'.cell? ⟨w.heap.size, 1, none⟩ = some (.slice x.ca x.cl x.cc)) (by kernel_rfl) (SK.out _ t1.out) (fun hHeld => ?_)
  refine held_take 0 (.agg #[.slice x.sa x.sl x.sc, .slice x.ca x.cl x.cc]) rfl (by kernel_rfl) (by kernel_rfl) (by kernel_rfl) (fun _ _ _ h => h) (by rfl) (by intro w' hS; go_simp) (by assumption) ?_
  try simp only [Act.put, List.setIfInBounds_toArray, List.set_cons_zero, List.set_cons_succ]
  refine held_call 1 (by kernel_rfl) rfl (by rfl) (fun K hK => ?_)
  go_simp
  refine (RX.out w2.drew (b2.out.trans (t1.out.mono b2.out.size))).mono ?_
  rintro e wq1 ⟨rfl, hb⟩
  have bq1 := Lib.hid (t1.out.trans ((hb).mono t1.out.size))
  go_wp2_with fail
  refine hK.out _ _ (SK.out _ bq1.out) (fun hHeld => ?_)
  try simp only [Act.put, List.setIfInBounds_toArray, List.set_cons_zero, List.set_cons_succ]
  refine held_take 2 (.bool false) rfl (by kernel_rfl) (by kernel_rfl) (by kernel_rfl) (fun _ _ _ h => h) (by rfl) (by intro w' hS; go_simp) (by assumption) ?_
  try simp only [Act.put, List.setIfInBounds_toArray, List.set_cons_zero, List.set_cons_succ]
  refine held_take 3 (.bool false) rfl (by kernel_rfl) (by kernel_rfl) (by kernel_rfl) (fun _ _ _ h => h) (by rfl) (by intro w' hS; go_simp) (by assumption) ?_
  try simp only [Act.put, List.setIfInBounds_toArray, List.set_cons_zero, List.set_cons_succ]
  refine held_take 4 (.slice s.sa s.sl s.sc) rfl (by kernel_rfl) (by kernel_rfl) (by kernel_rfl) (fun _ _ _ h => h) (by rfl) (by intro w' hS; go_simp) (by assumption) ?_
  try simp only [Act.put, List.setIfInBounds_toArray, List.set_cons_zero, List.set_cons_succ]
  refine held_call 5 (by kernel_rfl) rfl (by rfl) (fun K hK => ?_)
  go_simp
  refine (RS.out wq1 (b2.out.trans (bq1.out.mono b2.out.size))).mono ?_
  rintro e wq2 ⟨rfl, hb⟩
  have bq2 := Lib.hid (bq1.out.trans ((hb).mono bq1.out.size))
  go_wp2_with fail
  refine hK.out _ _ (SK.out _ bq2.out) (fun hHeld => ?_)
  try simp only [Act.put, List.setIfInBounds_toArray, List.set_cons_zero, List.set_cons_succ]
  refine held_take 6 (.bool true) rfl (by kernel_rfl) (by kernel_rfl) (by kernel_rfl) (fun _ _ _ h => h) (by rfl) (by intro w' hS; go_simp) (by assumption) ?_
  try simp only [Act.put, List.setIfInBounds_toArray, List.set_cons_zero, List.set_cons_succ]
  refine held_take 7 (.bool true) rfl (by kernel_rfl) (by kernel_rfl) (by kernel_rfl) (fun _ _ _ h => h) (by rfl) (by intro w' hS; go_simp) (by assumption) ?_
  try simp only [Act.put, List.setIfInBounds_toArray, List.set_cons_zero, List.set_cons_succ]
  refine held_take 8 (.bool true) rfl (by kernel_rfl) (by kernel_rfl) (by kernel_rfl) (fun _ _ _ h => h) (by rfl) (by intro w' hS; go_simp) (by assumption) ?_
  try simp only [Act.put, List.setIfInBounds_toArray, List.set_cons_zero, List.set_cons_succ]
  refine held_skip 9 rfl (by kernel_rfl) (by kernel_rfl) (by kernel_rfl) (fun _ _ _ h => h) (by rfl) (by assumption) ?_
  try simp only [Act.put, List.setIfInBounds_toArray, List.set_cons_zero, List.set_cons_succ]
  refine held_skip 11 rfl (by kernel_rfl) (by kernel_rfl) (by kernel_rfl) (fun _ _ _ h => h) (by rfl) (by assumption) ?_
  try simp only [Act.put, List.setIfInBounds_toArray, List.set_cons_zero, List.set_cons_succ]
  refine held_skip 12 rfl (by kernel_rfl) (by kernel_rfl) (by kernel_rfl) (fun _ _ _ h => h) (by rfl) (by assumption) ?_
  try simp only [Act.put, List.setIfInBounds_toArray, List.set_cons_zero, List.set_cons_succ]
  refine held_skip 13 rfl (by kernel_rfl) (by kernel_rfl) (by kernel_rfl) (fun _ _ _ h => h) (by rfl) (by assumption) ?_
  try simp only [Act.put, List.setIfInBounds_toArray, List.set_cons_zero, List.set_cons_succ]
  refine held_left 10 (by kernel_rfl) rfl (by rfl) (by assumption) ?_
  try simp only [Act.put, List.setIfInBounds_toArray, List.set_cons_zero, List.set_cons_succ]
  refine held_skip 14 rfl (by kernel_rfl) (by kernel_rfl) (by kernel_rfl) (fun _ _ _ h => h) (by rfl) (by assumption) ?_
  try simp only [Act.put, List.setIfInBounds_toArray, List.set_cons_zero, List.set_cons_succ]
  refine held_take 15 (.bool true) rfl (by kernel_rfl) (by kernel_rfl) (by kernel_rfl) (fun _ _ _ h => h) (by rfl) (by intro w' hS; go_simp) (by assumption) ?_
  try simp only [Act.put, List.setIfInBounds_toArray, List.set_cons_zero, List.set_cons_succ]
  refine wpAnyH_done (by kernel_rfl) ?_ _
  have b3 := Lib.hid (b2.out.trans (bq2.out.mono b2.out.size))
  have JX3 := Lib.hid (JX.out.kept bq2.out)
  have JG3 := Lib.hid (JG.out.kept bq2.out)
  have JT3 := Lib.hid (JT.out.kept bq2.out)
  have KT3 := Lib.hid (KT.out.kept bq2.out)
  clear JX JG JT KT SK
  obtain ⟨t0, t1', -, -⟩ := JT3.out.see
  obtain ⟨j0, j1, -, -⟩ := JX3.out.see
  obtain ⟨k0, k1, -, -⟩ := JG3.out.see
  go_wp2_with fail
  clear j0 j1 k0 k1 t0 t1'
  refine (T2N.out wq2 b3.out).mono ?_
  rintro e yb h'
  obtain ⟨V1, V2, V3, V4, rfl, GV, hb8⟩ := tres_open (n := x.sl) (m := g.cl) h' HXS.out HGC.out
  obtain ⟨w8, hw8, JV, zx, -⟩ := grid_box yb (.slice V1 x.sl V2) (.slice V3 g.cl V4)
  have q := hb8.trans (zx.out.mono hb8.size)
  have b8 := Lib.hid (b3.out.trans (q.mono b3.out.size))
  have JX8 := Lib.hid (JX3.out.kept q)
  have JG8 := Lib.hid (JG3.out.kept q)
  have KV8 := Lib.hid (GV.kept zx.out)
  clear h' GV hb8 q zx T2N JX3 JG3
  go_upto_region 17 with (fail)
  rw [hw8.out]
  obtain ⟨j0, j1, -, -⟩ := JX8.out.see
  go_wp2_with fail
  clear j0 j1
  refine (RX.out w8 b8.out).mono ?_
  rintro e w9 ⟨rfl, hb9⟩
  have b9 := Lib.hid (b8.out.trans (hb9.mono b8.out.size))
  have JX9 := Lib.hid (JX8.out.kept hb9)
  have JG9 := Lib.hid (JG8.out.kept hb9)
  have JV9 := Lib.hid (JV.out.kept hb9)
  have KV9 := Lib.hid (KV8.out.kept hb9)
  clear hb9 JX8 JG8 JV KV8
  obtain ⟨k0, k1, -, -⟩ := JG9.out.see
  go_wp2_with fail
  clear k0 k1
  refine (RG.out w9 b9.out).mono ?_
  rintro e w10 ⟨rfl, hb10⟩
  have b10 := Lib.hid (b9.out.trans (hb10.mono b9.out.size))
  replace JX9 := Lib.hid (JX9.out.kept hb10)
  replace JG9 := Lib.hid (JG9.out.kept hb10)
  replace JV9 := Lib.hid (JV9.out.kept hb10)
  replace KV9 := Lib.hid (KV9.out.kept hb10)
  clear hb10
  obtain ⟨j0, j1, -, -⟩ := JX9.out.see
  obtain ⟨k0, k1, -, -⟩ := JG9.out.see
  obtain ⟨v0, v1, -, -⟩ := JV9.out.see
  go_wp2_with fail
  clear v0 v1 j0 j1 k0 k1
  have EQ := tequal_any V1 x.sl V2 x.ss V3 g.cl V4 g.cs x.sa x.sl x.sc x.ss g.ca g.cl g.cc g.cs w10 KV9.out.1.1 KV9.out.1.2.1 (HX.out w10 b10.out).1.1 (HG.out w10 b10.out).1.2.1
  rw [show sameT x.ss g.cs x.ss g.cs = true by unfold sameT; rw [sameL_self, sameL_self]; rfl] at EQ
  refine EQ.mono ?_
  rintro e w11 ⟨rfl, hb11⟩
  have b11 := Lib.hid (b10.out.trans (hb11.mono b10.out.size))
  clear hb11 EQ
  go_wp2_with fail
  refine (awake09_any _).mono ?_
  rintro e w20 ⟨rfl, hb20⟩
  have b20 := Lib.hid (b11.out.trans (hb20.mono b11.out.size))
  clear hb20
  go_wp2_with fail
  go_ret
  exact ⟨rfl, b20.out⟩

set_option maxRecDepth 100000 in
set_option maxHeartbeats 16000000 in
theorem turns_cb (x g s : TV) (w : World) (hx : Good x w) (hg : Good g w) (hS : s.At w ∧ s.CapS) (hs : small9 [x, g] = true) (hl : s.sl ≤ 9) (q1 : rightT x.ss x.cl = true) (q2 : rightS s.ss = true) (q3 : prodI s.ss ≠ x.cl) (q4 : rightT g.ss g.cl = false) :
    Calls Try.prog 6 #[.agg #[.slice x.sa x.sl x.sc, .slice x.ca x.cl x.cc], .agg #[.slice g.sa g.sl g.sc, .slice g.ca g.cl g.cc], .slice s.sa s.sl s.sc] w fun e w' => e = .returned (.bool true) ∧ Below w.heap.size w w' := by
  have hw9 := small9_le hs
  have hxl : x.cl ≤ 1000 := by have := wtsM_mem (t := x) (ts := [x, g]) (by simp); omega
  have hgl : g.cl ≤ 1000 := by have := wtsM_mem (t := g) (ts := [x, g]) (by simp); omega
  have okx := hx.ok
  have okg := hg.ok
  rw [q1] at okx
  have lx : (pr x).2.length = x.cl := hx.len
  have lg : (pr g).2.length = g.cl := hg.len
  have RX := fun w1 (hb : Below w.heap.size w w1) => right9_any x.sa x.sl x.sc x.ss x.ca x.cl x.cc w1 (hx.kept hb).1.1 (by omega)
  rw [q1] at RX
  have TN := fun w1 (hb : Below w.heap.size w w1) => turn_any x s.sa s.sl s.sc s.ss w1 (hx.kept hb) (hS.1.kept hb).1 hxl
  have T2N := fun w1 (hb : Below w.heap.size w w1) => tback_any x g w1 (hx.kept hb) (hg.kept hb) hgl
  have HX := Lib.hid (fun w1 (hb : Below w.heap.size w w1) => hx.kept hb)
  have HG := Lib.hid (fun w1 (hb : Below w.heap.size w w1) => hg.kept hb)
  have HS := Lib.hid (fun w1 (hb : Below w.heap.size w w1) => (hS.1.kept hb).1)
  have HSL := Lib.hid hS.1.1.1
  have HCL := Lib.hid hx.len
  have HXS := Lib.hid hx.slen
  have HGC := Lib.hid hg.len
  have d9 : ¬ (9 : Int) < (s.sl : Int) := by omega
  have RS := fun w1 (hb : Below w.heap.size w w1) => (refshape_any s.sa s.sl s.sc s.ss w1 (hS.1.kept hb).1).mono (fun _ w' (h : _ ∧ w1 = w') => (⟨h.1, h.2 ▸ Below.refl _ _⟩ : _ ∧ Below w1.heap.size w1 w'))
  rw [q2] at RS
  have SZ := fun w1 (hb : Below w.heap.size w w1) => (refsize_any s.sa s.sl s.sc s.ss w1 (hS.1.kept hb).1 q2).mono (fun _ w' (h : _ ∧ w1 = w') => (⟨h.1, h.2 ▸ Below.refl _ _⟩ : _ ∧ Below w1.heap.size w1 w'))
  obtain ⟨q, hq⟩ : ∃ q, prodI s.ss = q := ⟨_, rfl⟩
  have dq : (q != (x.cl : Int)) = true := bne_iff_ne.2 (by rw [← hq]; exact q3)
  simp only [turn_b (s := s.ss) okx (by rw [lx]; exact (rightT_len (by omega)).symm)] at TN
  rw [q4] at okg
  have RG := fun w1 (hb : Below w.heap.size w w1) => right9_any g.sa g.sl g.sc g.ss g.ca g.cl g.cc w1 (hg.kept hb).1.1 (by omega)
  rw [q4] at RG
  replace RG := Lib.hid RG
  simp only [tback_t okx, turn_a okg] at T2N
  rw [hq] at SZ
  replace RX := Lib.hid RX
  replace TN := Lib.hid TN
  replace T2N := Lib.hid T2N
  replace RS := Lib.hid RS
  replace SZ := Lib.hid SZ
  obtain ⟨wA, hwA, J1, z1, n1⟩ := grid_box w (.slice x.sa x.sl x.sc) (.slice x.ca x.cl x.cc)
  obtain ⟨wB, hwB, J2, z2, n2⟩ := grid_box wA (.slice g.sa g.sl g.sc) (.slice g.ca g.cl g.cc)
  rw [n1.out] at J2
  have z := Lib.hid (z1.out.trans (z2.out.mono z1.out.size))
  have J := Lib.hid (J1.out.kept z2.out)
  obtain ⟨r1, hr1, gs1, zr1⟩ := gsl_made2 wB x g (hx.kept z.out) (hg.kept z.out)
  have SM := small9_any _ 2 2 _ r1 gs1.out.at_
  rw [hs] at SM
  have SM1 := Lib.hid SM
  clear SM hs hx hg hS hl hw9 okx okg lx lg q1 q2 q3 hq q4
  obtain ⟨j0, j1, -, -⟩ := J.out.see
  obtain ⟨k0, k1, -, -⟩ := J2.out.see
  have hr1' := hr1.out
  go_enter Try.func6, Try.ntmps6
  go_upto_region 1 with (fail)
  rw [hwA.out, hwB.out]
  go_wp2_with fail
  clear hr1' j0 j1 k0 k1
  refine SM1.out.mono ?_
  rintro e w1 ⟨rfl, hb1⟩
  have q1 := zr1.out.trans (hb1.mono zr1.out.size)
  have b1 := Lib.hid (z.out.trans (q1.mono z.out.size))
  have JX := Lib.hid (J.out.kept q1)
  have JG := Lib.hid (J2.out.kept q1)
  clear hb1 q1 SM1 J1 J J2 gs1 zr1 hr1
  obtain ⟨j0, j1, -, -⟩ := JX.out.see
  go_wp2_with fail
  clear j0 j1
  refine (TN.out w1 b1.out).mono ?_
  rintro e y2 h'
  obtain ⟨T1, T2, T3, T4, rfl, GT, hb2⟩ := tres_open (n := 0) (m := 0) h' rfl rfl
  obtain ⟨w2, hw2, JT, zx, -⟩ := grid_box y2 (.slice T1 0 T2) (.slice T3 0 T4)
  have q := hb2.trans (zx.out.mono hb2.size)
  have b2 := Lib.hid (b1.out.trans (q.mono b1.out.size))
  replace JX := Lib.hid (JX.out.kept q)
  replace JG := Lib.hid (JG.out.kept q)
  have KT := Lib.hid (GT.kept zx.out)
  clear h' GT hb2 q zx TN
  go_upto_region 4 with (fail)
  rw [hw2.out]
  have SK := Lib.hid (fun w' (hb : Below w2.heap.size w2 w') => (show w'.cell? ⟨w.heap.size, 0, none⟩ = some (.slice x.sa x.sl x.sc) ∧ w'.cell? ⟨w.heap.size, 1, none⟩ = some (.slice x.ca x.cl x.cc) from ⟨(JX.out.kept hb).see.1, (JX.out.kept hb).see.2.1⟩))
  have t1 := Lib.hid (show Below w2.heap.size w2 w2.drew from (Below.refl _ _).drew)
  refine wp_region_held_drew (S := fun w' => w'.cell? ⟨w.heap.size, 0, none⟩ = some (.slice x.sa x.sl x.sc) ∧ w'.cell? ⟨w.heap.size, 1, none⟩ = some (.slice x.ca x.cl x.cc)) (by kernel_rfl) (SK.out _ t1.out) (fun hHeld => ?_)
  refine held_take 0 (.agg #[.slice x.sa x.sl x.sc, .slice x.ca x.cl x.cc]) rfl (by kernel_rfl) (by kernel_rfl) (by kernel_rfl) (fun _ _ _ h => h) (by rfl) (by intro w' hS; go_simp) (by assumption) ?_
  try simp only [Act.put, List.setIfInBounds_toArray, List.set_cons_zero, List.set_cons_succ]
  refine held_call 1 (by kernel_rfl) rfl (by rfl) (fun K hK => ?_)
  go_simp
  refine (RX.out w2.drew (b2.out.trans (t1.out.mono b2.out.size))).mono ?_
  rintro e wq1 ⟨rfl, hb⟩
  have bq1 := Lib.hid (t1.out.trans ((hb).mono t1.out.size))
  go_wp2_with fail
  refine hK.out _ _ (SK.out _ bq1.out) (fun hHeld => ?_)
  try simp only [Act.put, List.setIfInBounds_toArray, List.set_cons_zero, List.set_cons_succ]
  refine held_take 2 (.bool false) rfl (by kernel_rfl) (by kernel_rfl) (by kernel_rfl) (fun _ _ _ h => h) (by rfl) (by intro w' hS; go_simp) (by assumption) ?_
  try simp only [Act.put, List.setIfInBounds_toArray, List.set_cons_zero, List.set_cons_succ]
  refine held_take 3 (.bool false) rfl (by kernel_rfl) (by kernel_rfl) (by kernel_rfl) (fun _ _ _ h => h) (by rfl) (by intro w' hS; go_simp) (by assumption) ?_
  try simp only [Act.put, List.setIfInBounds_toArray, List.set_cons_zero, List.set_cons_succ]
  refine held_take 4 (.slice s.sa s.sl s.sc) rfl (by kernel_rfl) (by kernel_rfl) (by kernel_rfl) (fun _ _ _ h => h) (by rfl) (by intro w' hS; go_simp) (by assumption) ?_
  try simp only [Act.put, List.setIfInBounds_toArray, List.set_cons_zero, List.set_cons_succ]
  refine held_call 5 (by kernel_rfl) rfl (by rfl) (fun K hK => ?_)
  go_simp
  refine (RS.out wq1 (b2.out.trans (bq1.out.mono b2.out.size))).mono ?_
  rintro e wq2 ⟨rfl, hb⟩
  have bq2 := Lib.hid (bq1.out.trans ((hb).mono bq1.out.size))
  go_wp2_with fail
  refine hK.out _ _ (SK.out _ bq2.out) (fun hHeld => ?_)
  try simp only [Act.put, List.setIfInBounds_toArray, List.set_cons_zero, List.set_cons_succ]
  refine held_take 6 (.bool false) rfl (by kernel_rfl) (by kernel_rfl) (by kernel_rfl) (fun _ _ _ h => h) (by rfl) (by intro w' hS; go_simp) (by assumption) ?_
  try simp only [Act.put, List.setIfInBounds_toArray, List.set_cons_zero, List.set_cons_succ]
  refine held_take 7 (.bool false) rfl (by kernel_rfl) (by kernel_rfl) (by kernel_rfl) (fun _ _ _ h => h) (by rfl) (by intro w' hS; go_simp) (by assumption) ?_
  try simp only [Act.put, List.setIfInBounds_toArray, List.set_cons_zero, List.set_cons_succ]
  refine held_take 8 (.bool false) rfl (by kernel_rfl) (by kernel_rfl) (by kernel_rfl) (fun _ _ _ h => h) (by rfl) (by intro w' hS; go_simp) (by assumption) ?_
  try simp only [Act.put, List.setIfInBounds_toArray, List.set_cons_zero, List.set_cons_succ]
  refine held_take 9 (.slice s.sa s.sl s.sc) rfl (by kernel_rfl) (by kernel_rfl) (by kernel_rfl) (fun _ _ _ h => h) (by rfl) (by intro w' hS; go_simp) (by assumption) ?_
  try simp only [Act.put, List.setIfInBounds_toArray, List.set_cons_zero, List.set_cons_succ]
  refine held_take 11 (.pointer (some ⟨w.heap.size, 1, none⟩)) rfl (by kernel_rfl) (by kernel_rfl) (by kernel_rfl) (fun _ _ _ h => h) (by rfl) (by intro w' hS; go_simp) (by assumption) ?_
  try simp only [Act.put, List.setIfInBounds_toArray, List.set_cons_zero, List.set_cons_succ]
  refine held_take 12 (.slice x.ca x.cl x.cc) rfl (by kernel_rfl) (by kernel_rfl) (by kernel_rfl) (fun _ _ _ h => h) (by rfl) (by intro w' hS; go_simp) (by assumption) ?_
  try simp only [Act.put, List.setIfInBounds_toArray, List.set_cons_zero, List.set_cons_succ]
  refine held_take 13 (.int .i64 x.cl) rfl (by kernel_rfl) (by kernel_rfl) (by kernel_rfl) (fun _ _ _ h => h) (by rfl) (by intro w' hS; go_simp) (by assumption) ?_
  try simp only [Act.put, List.setIfInBounds_toArray, List.set_cons_zero, List.set_cons_succ]
  refine held_call 10 (by kernel_rfl) rfl (by rfl) (fun K hK => ?_)
  go_simp
  refine (SZ.out wq2 (b2.out.trans (bq2.out.mono b2.out.size))).mono ?_
  rintro e wq3 ⟨rfl, hb⟩
  have bq3 := Lib.hid (bq2.out.trans ((hb).mono bq2.out.size))
  go_wp2_with fail
  refine hK.out _ _ (SK.out _ bq3.out) (fun hHeld => ?_)
  try simp only [Act.put, List.setIfInBounds_toArray, List.set_cons_zero, List.set_cons_succ]
  refine held_take 14 (.bool true) rfl (by kernel_rfl) (by kernel_rfl) (by kernel_rfl) (fun _ _ _ h => h) (by rfl) (by intro w' hS; go_simp) (by assumption) ?_
  try simp only [Act.put, List.setIfInBounds_toArray, List.set_cons_zero, List.set_cons_succ]
  refine held_take 15 (.bool true) rfl (by kernel_rfl) (by kernel_rfl) (by kernel_rfl) (fun _ _ _ h => h) (by rfl) (by intro w' hS; go_simp) (by assumption) ?_
  try simp only [Act.put, List.setIfInBounds_toArray, List.set_cons_zero, List.set_cons_succ]
  refine wpAnyH_done (by kernel_rfl) ?_ _
  have b3 := Lib.hid (b2.out.trans (bq3.out.mono b2.out.size))
  have JX3 := Lib.hid (JX.out.kept bq3.out)
  have JG3 := Lib.hid (JG.out.kept bq3.out)
  have JT3 := Lib.hid (JT.out.kept bq3.out)
  have KT3 := Lib.hid (KT.out.kept bq3.out)
  clear JX JG JT KT SK
  obtain ⟨t0, t1', -, -⟩ := JT3.out.see
  obtain ⟨j0, j1, -, -⟩ := JX3.out.see
  obtain ⟨k0, k1, -, -⟩ := JG3.out.see
  go_wp2_with fail
  clear j0 j1 k0 k1 t0 t1'
  refine (T2N.out wq3 b3.out).mono ?_
  rintro e yb h'
  obtain ⟨V1, V2, V3, V4, rfl, GV, hb8⟩ := tres_open (n := 0) (m := 0) h' rfl rfl
  obtain ⟨w8, hw8, JV, zx, -⟩ := grid_box yb (.slice V1 0 V2) (.slice V3 0 V4)
  have q := hb8.trans (zx.out.mono hb8.size)
  have b8 := Lib.hid (b3.out.trans (q.mono b3.out.size))
  have JX8 := Lib.hid (JX3.out.kept q)
  have JG8 := Lib.hid (JG3.out.kept q)
  have KV8 := Lib.hid (GV.kept zx.out)
  clear h' GV hb8 q zx T2N JX3 JG3
  go_upto_region 17 with (fail)
  rw [hw8.out]
  obtain ⟨j0, j1, -, -⟩ := JX8.out.see
  go_wp2_with fail
  clear j0 j1
  refine (RX.out w8 b8.out).mono ?_
  rintro e w9 ⟨rfl, hb9⟩
  have b9 := Lib.hid (b8.out.trans (hb9.mono b8.out.size))
  have JX9 := Lib.hid (JX8.out.kept hb9)
  have JG9 := Lib.hid (JG8.out.kept hb9)
  have JV9 := Lib.hid (JV.out.kept hb9)
  have KV9 := Lib.hid (KV8.out.kept hb9)
  clear hb9 JX8 JG8 JV KV8
  obtain ⟨k0, k1, -, -⟩ := JG9.out.see
  go_wp2_with fail
  clear k0 k1
  refine (RG.out w9 b9.out).mono ?_
  rintro e w10 ⟨rfl, hb10⟩
  have b10 := Lib.hid (b9.out.trans (hb10.mono b9.out.size))
  replace JX9 := Lib.hid (JX9.out.kept hb10)
  replace JG9 := Lib.hid (JG9.out.kept hb10)
  replace JV9 := Lib.hid (JV9.out.kept hb10)
  replace KV9 := Lib.hid (KV9.out.kept hb10)
  clear hb10
  obtain ⟨v0, v1, -, -⟩ := JV9.out.see
  go_wp2_with fail
  clear v0 v1
  refine (awake09_any _).mono ?_
  rintro e w20 ⟨rfl, hb20⟩
  have b20 := Lib.hid (b10.out.trans (hb20.mono b10.out.size))
  clear hb20
  go_wp2_with fail
  go_ret
  exact ⟨rfl, b20.out⟩

set_option maxRecDepth 100000 in
set_option maxHeartbeats 16000000 in
theorem turns_cc (x g s : TV) (w : World) (hx : Good x w) (hg : Good g w) (hS : s.At w ∧ s.CapS) (hs : small9 [x, g] = true) (hl : s.sl ≤ 9) (q1 : rightT x.ss x.cl = true) (q2 : rightS s.ss = true) (q3 : prodI s.ss ≠ x.cl) (q4 : rightT g.ss g.cl = true) (q5 : g.cl ≠ x.cl) :
    Calls Try.prog 6 #[.agg #[.slice x.sa x.sl x.sc, .slice x.ca x.cl x.cc], .agg #[.slice g.sa g.sl g.sc, .slice g.ca g.cl g.cc], .slice s.sa s.sl s.sc] w fun e w' => e = .returned (.bool true) ∧ Below w.heap.size w w' := by
  have hw9 := small9_le hs
  have hxl : x.cl ≤ 1000 := by have := wtsM_mem (t := x) (ts := [x, g]) (by simp); omega
  have hgl : g.cl ≤ 1000 := by have := wtsM_mem (t := g) (ts := [x, g]) (by simp); omega
  have okx := hx.ok
  have okg := hg.ok
  rw [q1] at okx
  have lx : (pr x).2.length = x.cl := hx.len
  have lg : (pr g).2.length = g.cl := hg.len
  have RX := fun w1 (hb : Below w.heap.size w w1) => right9_any x.sa x.sl x.sc x.ss x.ca x.cl x.cc w1 (hx.kept hb).1.1 (by omega)
  rw [q1] at RX
  have TN := fun w1 (hb : Below w.heap.size w w1) => turn_any x s.sa s.sl s.sc s.ss w1 (hx.kept hb) (hS.1.kept hb).1 hxl
  have T2N := fun w1 (hb : Below w.heap.size w w1) => tback_any x g w1 (hx.kept hb) (hg.kept hb) hgl
  have HX := Lib.hid (fun w1 (hb : Below w.heap.size w w1) => hx.kept hb)
  have HG := Lib.hid (fun w1 (hb : Below w.heap.size w w1) => hg.kept hb)
  have HS := Lib.hid (fun w1 (hb : Below w.heap.size w w1) => (hS.1.kept hb).1)
  have HSL := Lib.hid hS.1.1.1
  have HCL := Lib.hid hx.len
  have HXS := Lib.hid hx.slen
  have HGC := Lib.hid hg.len
  have d9 : ¬ (9 : Int) < (s.sl : Int) := by omega
  have RS := fun w1 (hb : Below w.heap.size w w1) => (refshape_any s.sa s.sl s.sc s.ss w1 (hS.1.kept hb).1).mono (fun _ w' (h : _ ∧ w1 = w') => (⟨h.1, h.2 ▸ Below.refl _ _⟩ : _ ∧ Below w1.heap.size w1 w'))
  rw [q2] at RS
  have SZ := fun w1 (hb : Below w.heap.size w w1) => (refsize_any s.sa s.sl s.sc s.ss w1 (hS.1.kept hb).1 q2).mono (fun _ w' (h : _ ∧ w1 = w') => (⟨h.1, h.2 ▸ Below.refl _ _⟩ : _ ∧ Below w1.heap.size w1 w'))
  obtain ⟨q, hq⟩ : ∃ q, prodI s.ss = q := ⟨_, rfl⟩
  have dq : (q != (x.cl : Int)) = true := bne_iff_ne.2 (by rw [← hq]; exact q3)
  simp only [turn_b (s := s.ss) okx (by rw [lx]; exact (rightT_len (by omega)).symm)] at TN
  rw [q4] at okg
  have RG := fun w1 (hb : Below w.heap.size w w1) => right9_any g.sa g.sl g.sc g.ss g.ca g.cl g.cc w1 (hg.kept hb).1.1 (by omega)
  rw [q4] at RG
  replace RG := Lib.hid RG
  simp only [tback_t okx, turn_b (s := (pr x).1) okg (by rw [lg]; exact rightT_other q1 q5)] at T2N
  have dg : ((x.cl : Int) != (g.cl : Int)) = true := bne_iff_ne.2 (by omega)
  rw [hq] at SZ
  replace RX := Lib.hid RX
  replace TN := Lib.hid TN
  replace T2N := Lib.hid T2N
  replace RS := Lib.hid RS
  replace SZ := Lib.hid SZ
  obtain ⟨wA, hwA, J1, z1, n1⟩ := grid_box w (.slice x.sa x.sl x.sc) (.slice x.ca x.cl x.cc)
  obtain ⟨wB, hwB, J2, z2, n2⟩ := grid_box wA (.slice g.sa g.sl g.sc) (.slice g.ca g.cl g.cc)
  rw [n1.out] at J2
  have z := Lib.hid (z1.out.trans (z2.out.mono z1.out.size))
  have J := Lib.hid (J1.out.kept z2.out)
  obtain ⟨r1, hr1, gs1, zr1⟩ := gsl_made2 wB x g (hx.kept z.out) (hg.kept z.out)
  have SM := small9_any _ 2 2 _ r1 gs1.out.at_
  rw [hs] at SM
  have SM1 := Lib.hid SM
  clear SM hs hx hg hS hl hw9 okx okg lx lg q1 q2 q3 hq q4 q5
  obtain ⟨j0, j1, -, -⟩ := J.out.see
  obtain ⟨k0, k1, -, -⟩ := J2.out.see
  have hr1' := hr1.out
  go_enter Try.func6, Try.ntmps6
  go_upto_region 1 with (fail)
  rw [hwA.out, hwB.out]
  go_wp2_with fail
  clear hr1' j0 j1 k0 k1
  refine SM1.out.mono ?_
  rintro e w1 ⟨rfl, hb1⟩
  have q1 := zr1.out.trans (hb1.mono zr1.out.size)
  have b1 := Lib.hid (z.out.trans (q1.mono z.out.size))
  have JX := Lib.hid (J.out.kept q1)
  have JG := Lib.hid (J2.out.kept q1)
  clear hb1 q1 SM1 J1 J J2 gs1 zr1 hr1
  obtain ⟨j0, j1, -, -⟩ := JX.out.see
  go_wp2_with fail
  clear j0 j1
  refine (TN.out w1 b1.out).mono ?_
  rintro e y2 h'
  obtain ⟨T1, T2, T3, T4, rfl, GT, hb2⟩ := tres_open (n := 0) (m := 0) h' rfl rfl
  obtain ⟨w2, hw2, JT, zx, -⟩ := grid_box y2 (.slice T1 0 T2) (.slice T3 0 T4)
  have q := hb2.trans (zx.out.mono hb2.size)
  have b2 := Lib.hid (b1.out.trans (q.mono b1.out.size))
  replace JX := Lib.hid (JX.out.kept q)
  replace JG := Lib.hid (JG.out.kept q)
  have KT := Lib.hid (GT.kept zx.out)
  clear h' GT hb2 q zx TN
  go_upto_region 4 with (fail)
  rw [hw2.out]
  have SK := Lib.hid (fun w' (hb : Below w2.heap.size w2 w') => (show w'.cell? ⟨w.heap.size, 0, none⟩ = some (.slice x.sa x.sl x.sc) ∧ w'.cell? ⟨w.heap.size, 1, none⟩ = some (.slice x.ca x.cl x.cc) from ⟨(JX.out.kept hb).see.1, (JX.out.kept hb).see.2.1⟩))
  have t1 := Lib.hid (show Below w2.heap.size w2 w2.drew from (Below.refl _ _).drew)
  refine wp_region_held_drew (S := fun w' => w'.cell? ⟨w.heap.size, 0, none⟩ = some (.slice x.sa x.sl x.sc) ∧ w'.cell? ⟨w.heap.size, 1, none⟩ = some (.slice x.ca x.cl x.cc)) (by kernel_rfl) (SK.out _ t1.out) (fun hHeld => ?_)
  refine held_take 0 (.agg #[.slice x.sa x.sl x.sc, .slice x.ca x.cl x.cc]) rfl (by kernel_rfl) (by kernel_rfl) (by kernel_rfl) (fun _ _ _ h => h) (by rfl) (by intro w' hS; go_simp) (by assumption) ?_
  try simp only [Act.put, List.setIfInBounds_toArray, List.set_cons_zero, List.set_cons_succ]
  refine held_call 1 (by kernel_rfl) rfl (by rfl) (fun K hK => ?_)
  go_simp
  refine (RX.out w2.drew (b2.out.trans (t1.out.mono b2.out.size))).mono ?_
  rintro e wq1 ⟨rfl, hb⟩
  have bq1 := Lib.hid (t1.out.trans ((hb).mono t1.out.size))
  go_wp2_with fail
  refine hK.out _ _ (SK.out _ bq1.out) (fun hHeld => ?_)
  try simp only [Act.put, List.setIfInBounds_toArray, List.set_cons_zero, List.set_cons_succ]
  refine held_take 2 (.bool false) rfl (by kernel_rfl) (by kernel_rfl) (by kernel_rfl) (fun _ _ _ h => h) (by rfl) (by intro w' hS; go_simp) (by assumption) ?_
  try simp only [Act.put, List.setIfInBounds_toArray, List.set_cons_zero, List.set_cons_succ]
  refine held_take 3 (.bool false) rfl (by kernel_rfl) (by kernel_rfl) (by kernel_rfl) (fun _ _ _ h => h) (by rfl) (by intro w' hS; go_simp) (by assumption) ?_
  try simp only [Act.put, List.setIfInBounds_toArray, List.set_cons_zero, List.set_cons_succ]
  refine held_take 4 (.slice s.sa s.sl s.sc) rfl (by kernel_rfl) (by kernel_rfl) (by kernel_rfl) (fun _ _ _ h => h) (by rfl) (by intro w' hS; go_simp) (by assumption) ?_
  try simp only [Act.put, List.setIfInBounds_toArray, List.set_cons_zero, List.set_cons_succ]
  refine held_call 5 (by kernel_rfl) rfl (by rfl) (fun K hK => ?_)
  go_simp
  refine (RS.out wq1 (b2.out.trans (bq1.out.mono b2.out.size))).mono ?_
  rintro e wq2 ⟨rfl, hb⟩
  have bq2 := Lib.hid (bq1.out.trans ((hb).mono bq1.out.size))
  go_wp2_with fail
  refine hK.out _ _ (SK.out _ bq2.out) (fun hHeld => ?_)
  try simp only [Act.put, List.setIfInBounds_toArray, List.set_cons_zero, List.set_cons_succ]
  refine held_take 6 (.bool false) rfl (by kernel_rfl) (by kernel_rfl) (by kernel_rfl) (fun _ _ _ h => h) (by rfl) (by intro w' hS; go_simp) (by assumption) ?_
  try simp only [Act.put, List.setIfInBounds_toArray, List.set_cons_zero, List.set_cons_succ]
  refine held_take 7 (.bool false) rfl (by kernel_rfl) (by kernel_rfl) (by kernel_rfl) (fun _ _ _ h => h) (by rfl) (by intro w' hS; go_simp) (by assumption) ?_
  try simp only [Act.put, List.setIfInBounds_toArray, List.set_cons_zero, List.set_cons_succ]
  refine held_take 8 (.bool false) rfl (by kernel_rfl) (by kernel_rfl) (by kernel_rfl) (fun _ _ _ h => h) (by rfl) (by intro w' hS; go_simp) (by assumption) ?_
  try simp only [Act.put, List.setIfInBounds_toArray, List.set_cons_zero, List.set_cons_succ]
  refine held_take 9 (.slice s.sa s.sl s.sc) rfl (by kernel_rfl) (by kernel_rfl) (by kernel_rfl) (fun _ _ _ h => h) (by rfl) (by intro w' hS; go_simp) (by assumption) ?_
  try simp only [Act.put, List.setIfInBounds_toArray, List.set_cons_zero, List.set_cons_succ]
  refine held_take 11 (.pointer (some ⟨w.heap.size, 1, none⟩)) rfl (by kernel_rfl) (by kernel_rfl) (by kernel_rfl) (fun _ _ _ h => h) (by rfl) (by intro w' hS; go_simp) (by assumption) ?_
  try simp only [Act.put, List.setIfInBounds_toArray, List.set_cons_zero, List.set_cons_succ]
  refine held_take 12 (.slice x.ca x.cl x.cc) rfl (by kernel_rfl) (by kernel_rfl) (by kernel_rfl) (fun _ _ _ h => h) (by rfl) (by intro w' hS; go_simp) (by assumption) ?_
  try simp only [Act.put, List.setIfInBounds_toArray, List.set_cons_zero, List.set_cons_succ]
  refine held_take 13 (.int .i64 x.cl) rfl (by kernel_rfl) (by kernel_rfl) (by kernel_rfl) (fun _ _ _ h => h) (by rfl) (by intro w' hS; go_simp) (by assumption) ?_
  try simp only [Act.put, List.setIfInBounds_toArray, List.set_cons_zero, List.set_cons_succ]
  refine held_call 10 (by kernel_rfl) rfl (by rfl) (fun K hK => ?_)
  go_simp
  refine (SZ.out wq2 (b2.out.trans (bq2.out.mono b2.out.size))).mono ?_
  rintro e wq3 ⟨rfl, hb⟩
  have bq3 := Lib.hid (bq2.out.trans ((hb).mono bq2.out.size))
  go_wp2_with fail
  refine hK.out _ _ (SK.out _ bq3.out) (fun hHeld => ?_)
  try simp only [Act.put, List.setIfInBounds_toArray, List.set_cons_zero, List.set_cons_succ]
  refine held_take 14 (.bool true) rfl (by kernel_rfl) (by kernel_rfl) (by kernel_rfl) (fun _ _ _ h => h) (by rfl) (by intro w' hS; go_simp) (by assumption) ?_
  try simp only [Act.put, List.setIfInBounds_toArray, List.set_cons_zero, List.set_cons_succ]
  refine held_take 15 (.bool true) rfl (by kernel_rfl) (by kernel_rfl) (by kernel_rfl) (fun _ _ _ h => h) (by rfl) (by intro w' hS; go_simp) (by assumption) ?_
  try simp only [Act.put, List.setIfInBounds_toArray, List.set_cons_zero, List.set_cons_succ]
  refine wpAnyH_done (by kernel_rfl) ?_ _
  have b3 := Lib.hid (b2.out.trans (bq3.out.mono b2.out.size))
  have JX3 := Lib.hid (JX.out.kept bq3.out)
  have JG3 := Lib.hid (JG.out.kept bq3.out)
  have JT3 := Lib.hid (JT.out.kept bq3.out)
  have KT3 := Lib.hid (KT.out.kept bq3.out)
  clear JX JG JT KT SK
  obtain ⟨t0, t1', -, -⟩ := JT3.out.see
  obtain ⟨j0, j1, -, -⟩ := JX3.out.see
  obtain ⟨k0, k1, -, -⟩ := JG3.out.see
  go_wp2_with fail
  clear j0 j1 k0 k1 t0 t1'
  refine (T2N.out wq3 b3.out).mono ?_
  rintro e yb h'
  obtain ⟨V1, V2, V3, V4, rfl, GV, hb8⟩ := tres_open (n := 0) (m := 0) h' rfl rfl
  obtain ⟨w8, hw8, JV, zx, -⟩ := grid_box yb (.slice V1 0 V2) (.slice V3 0 V4)
  have q := hb8.trans (zx.out.mono hb8.size)
  have b8 := Lib.hid (b3.out.trans (q.mono b3.out.size))
  have JX8 := Lib.hid (JX3.out.kept q)
  have JG8 := Lib.hid (JG3.out.kept q)
  have KV8 := Lib.hid (GV.kept zx.out)
  clear h' GV hb8 q zx T2N JX3 JG3
  go_upto_region 17 with (fail)
  rw [hw8.out]
  obtain ⟨j0, j1, -, -⟩ := JX8.out.see
  go_wp2_with fail
  clear j0 j1
  refine (RX.out w8 b8.out).mono ?_
  rintro e w9 ⟨rfl, hb9⟩
  have b9 := Lib.hid (b8.out.trans (hb9.mono b8.out.size))
  have JX9 := Lib.hid (JX8.out.kept hb9)
  have JG9 := Lib.hid (JG8.out.kept hb9)
  have JV9 := Lib.hid (JV.out.kept hb9)
  have KV9 := Lib.hid (KV8.out.kept hb9)
  clear hb9 JX8 JG8 JV KV8
  obtain ⟨k0, k1, -, -⟩ := JG9.out.see
  go_wp2_with fail
  clear k0 k1
  refine (RG.out w9 b9.out).mono ?_
  rintro e w10 ⟨rfl, hb10⟩
  have b10 := Lib.hid (b9.out.trans (hb10.mono b9.out.size))
  replace JX9 := Lib.hid (JX9.out.kept hb10)
  replace JG9 := Lib.hid (JG9.out.kept hb10)
  replace JV9 := Lib.hid (JV9.out.kept hb10)
  replace KV9 := Lib.hid (KV9.out.kept hb10)
  clear hb10
  obtain ⟨j0, j1, -, -⟩ := JX9.out.see
  obtain ⟨k0, k1, -, -⟩ := JG9.out.see
  obtain ⟨v0, v1, -, -⟩ := JV9.out.see
  go_wp2_with fail
  clear v0 v1 j0 j1 k0 k1
  refine (awake09_any _).mono ?_
  rintro e w20 ⟨rfl, hb20⟩
  have b20 := Lib.hid (b10.out.trans (hb20.mono b10.out.size))
  clear hb20
  go_wp2_with fail
  go_ret
  exact ⟨rfl, b20.out⟩

set_option maxRecDepth 100000 in
set_option maxHeartbeats 16000000 in
theorem turns_co (x g s : TV) (w : World) (hx : Good x w) (hg : Good g w) (hS : s.At w ∧ s.CapS) (hs : small9 [x, g] = true) (hl : s.sl ≤ 9) (q1 : rightT x.ss x.cl = true) (q2 : rightS s.ss = true) (q3 : prodI s.ss ≠ x.cl) (q4 : rightT g.ss g.cl = true) (q5 : g.cl = x.cl) :
    Calls Try.prog 6 #[.agg #[.slice x.sa x.sl x.sc, .slice x.ca x.cl x.cc], .agg #[.slice g.sa g.sl g.sc, .slice g.ca g.cl g.cc], .slice s.sa s.sl s.sc] w fun e w' => e = .returned (.bool true) ∧ Below w.heap.size w w' := by
  have hw9 := small9_le hs
  have hxl : x.cl ≤ 1000 := by have := wtsM_mem (t := x) (ts := [x, g]) (by simp); omega
  have hgl : g.cl ≤ 1000 := by have := wtsM_mem (t := g) (ts := [x, g]) (by simp); omega
  have okx := hx.ok
  have okg := hg.ok
  rw [q1] at okx
  have lx : (pr x).2.length = x.cl := hx.len
  have lg : (pr g).2.length = g.cl := hg.len
  have RX := fun w1 (hb : Below w.heap.size w w1) => right9_any x.sa x.sl x.sc x.ss x.ca x.cl x.cc w1 (hx.kept hb).1.1 (by omega)
  rw [q1] at RX
  have TN := fun w1 (hb : Below w.heap.size w w1) => turn_any x s.sa s.sl s.sc s.ss w1 (hx.kept hb) (hS.1.kept hb).1 hxl
  have T2N := fun w1 (hb : Below w.heap.size w w1) => tback_any x g w1 (hx.kept hb) (hg.kept hb) hgl
  have HX := Lib.hid (fun w1 (hb : Below w.heap.size w w1) => hx.kept hb)
  have HG := Lib.hid (fun w1 (hb : Below w.heap.size w w1) => hg.kept hb)
  have HS := Lib.hid (fun w1 (hb : Below w.heap.size w w1) => (hS.1.kept hb).1)
  have HSL := Lib.hid hS.1.1.1
  have HCL := Lib.hid hx.len
  have HXS := Lib.hid hx.slen
  have HGC := Lib.hid hg.len
  have d9 : ¬ (9 : Int) < (s.sl : Int) := by omega
  have RS := fun w1 (hb : Below w.heap.size w w1) => (refshape_any s.sa s.sl s.sc s.ss w1 (hS.1.kept hb).1).mono (fun _ w' (h : _ ∧ w1 = w') => (⟨h.1, h.2 ▸ Below.refl _ _⟩ : _ ∧ Below w1.heap.size w1 w'))
  rw [q2] at RS
  have SZ := fun w1 (hb : Below w.heap.size w w1) => (refsize_any s.sa s.sl s.sc s.ss w1 (hS.1.kept hb).1 q2).mono (fun _ w' (h : _ ∧ w1 = w') => (⟨h.1, h.2 ▸ Below.refl _ _⟩ : _ ∧ Below w1.heap.size w1 w'))
  obtain ⟨q, hq⟩ : ∃ q, prodI s.ss = q := ⟨_, rfl⟩
  have dq : (q != (x.cl : Int)) = true := bne_iff_ne.2 (by rw [← hq]; exact q3)
  simp only [turn_b (s := s.ss) okx (by rw [lx]; exact (rightT_len (by omega)).symm)] at TN
  rw [q4] at okg
  have RG := fun w1 (hb : Below w.heap.size w w1) => right9_any g.sa g.sl g.sc g.ss g.ca g.cl g.cc w1 (hg.kept hb).1.1 (by omega)
  rw [q4] at RG
  replace RG := Lib.hid RG
  simp only [tback_t okx, turn_o (s := (pr x).1) okg (by rw [lg, q5]; exact q1)] at T2N
  replace T2N : ∀ w1, Below w.heap.size w w1 → Calls _ _ _ w1 (TRes w1 (0, (x.ss, g.cs))) := T2N
  have dg : ((x.cl : Int) != (g.cl : Int)) = false := by rw [q5]; simp
  rw [hq] at SZ
  replace RX := Lib.hid RX
  replace TN := Lib.hid TN
  replace T2N := Lib.hid T2N
  replace RS := Lib.hid RS
  replace SZ := Lib.hid SZ
  obtain ⟨wA, hwA, J1, z1, n1⟩ := grid_box w (.slice x.sa x.sl x.sc) (.slice x.ca x.cl x.cc)
  obtain ⟨wB, hwB, J2, z2, n2⟩ := grid_box wA (.slice g.sa g.sl g.sc) (.slice g.ca g.cl g.cc)
  rw [n1.out] at J2
  have z := Lib.hid (z1.out.trans (z2.out.mono z1.out.size))
  have J := Lib.hid (J1.out.kept z2.out)
  obtain ⟨r1, hr1, gs1, zr1⟩ := gsl_made2 wB x g (hx.kept z.out) (hg.kept z.out)
  have SM := small9_any _ 2 2 _ r1 gs1.out.at_
  rw [hs] at SM
  have SM1 := Lib.hid SM
  clear SM hs hx hg hS hl hw9 okx okg lx lg q1 q2 q3 hq q4 q5
  obtain ⟨j0, j1, -, -⟩ := J.out.see
  obtain ⟨k0, k1, -, -⟩ := J2.out.see
  have hr1' := hr1.out
  go_enter Try.func6, Try.ntmps6
  go_upto_region 1 with (fail)
  rw [hwA.out, hwB.out]
  go_wp2_with fail
  clear hr1' j0 j1 k0 k1
  refine SM1.out.mono ?_
  rintro e w1 ⟨rfl, hb1⟩
  have q1 := zr1.out.trans (hb1.mono zr1.out.size)
  have b1 := Lib.hid (z.out.trans (q1.mono z.out.size))
  have JX := Lib.hid (J.out.kept q1)
  have JG := Lib.hid (J2.out.kept q1)
  clear hb1 q1 SM1 J1 J J2 gs1 zr1 hr1
  obtain ⟨j0, j1, -, -⟩ := JX.out.see
  go_wp2_with fail
  clear j0 j1
  refine (TN.out w1 b1.out).mono ?_
  rintro e y2 h'
  obtain ⟨T1, T2, T3, T4, rfl, GT, hb2⟩ := tres_open (n := 0) (m := 0) h' rfl rfl
  obtain ⟨w2, hw2, JT, zx, -⟩ := grid_box y2 (.slice T1 0 T2) (.slice T3 0 T4)
  have q := hb2.trans (zx.out.mono hb2.size)
  have b2 := Lib.hid (b1.out.trans (q.mono b1.out.size))
  replace JX := Lib.hid (JX.out.kept q)
  replace JG := Lib.hid (JG.out.kept q)
  have KT := Lib.hid (GT.kept zx.out)
  clear h' GT hb2 q zx TN
  go_upto_region 4 with (fail)
  rw [hw2.out]
  have SK := Lib.hid (fun w' (hb : Below w2.heap.size w2 w') => (show w'.cell? ⟨w.heap.size, 0, none⟩ = some (.slice x.sa x.sl x.sc) ∧ w'.cell? ⟨w.heap.size, 1, none⟩ = some (.slice x.ca x.cl x.cc) from ⟨(JX.out.kept hb).see.1, (JX.out.kept hb).see.2.1⟩))
  have t1 := Lib.hid (show Below w2.heap.size w2 w2.drew from (Below.refl _ _).drew)
  refine wp_region_held_drew (S := fun w' => w'.cell? ⟨w.heap.size, 0, none⟩ = some (.slice x.sa x.sl x.sc) ∧ w'.cell? ⟨w.heap.size, 1, none⟩ = some (.slice x.ca x.cl x.cc)) (by kernel_rfl) (SK.out _ t1.out) (fun hHeld => ?_)
  refine held_take 0 (.agg #[.slice x.sa x.sl x.sc, .slice x.ca x.cl x.cc]) rfl (by kernel_rfl) (by kernel_rfl) (by kernel_rfl) (fun _ _ _ h => h) (by rfl) (by intro w' hS; go_simp) (by assumption) ?_
  try simp only [Act.put, List.setIfInBounds_toArray, List.set_cons_zero, List.set_cons_succ]
  refine held_call 1 (by kernel_rfl) rfl (by rfl) (fun K hK => ?_)
  go_simp
  refine (RX.out w2.drew (b2.out.trans (t1.out.mono b2.out.size))).mono ?_
  rintro e wq1 ⟨rfl, hb⟩
  have bq1 := Lib.hid (t1.out.trans ((hb).mono t1.out.size))
  go_wp2_with fail
  refine hK.out _ _ (SK.out _ bq1.out) (fun hHeld => ?_)
  try simp only [Act.put, List.setIfInBounds_toArray, List.set_cons_zero, List.set_cons_succ]
  refine held_take 2 (.bool false) rfl (by kernel_rfl) (by kernel_rfl) (by kernel_rfl) (fun _ _ _ h => h) (by rfl) (by intro w' hS; go_simp) (by assumption) ?_
  try simp only [Act.put, List.setIfInBounds_toArray, List.set_cons_zero, List.set_cons_succ]
  refine held_take 3 (.bool false) rfl (by kernel_rfl) (by kernel_rfl) (by kernel_rfl) (fun _ _ _ h => h) (by rfl) (by intro w' hS; go_simp) (by assumption) ?_
  try simp only [Act.put, List.setIfInBounds_toArray, List.set_cons_zero, List.set_cons_succ]
  refine held_take 4 (.slice s.sa s.sl s.sc) rfl (by kernel_rfl) (by kernel_rfl) (by kernel_rfl) (fun _ _ _ h => h) (by rfl) (by intro w' hS; go_simp) (by assumption) ?_
  try simp only [Act.put, List.setIfInBounds_toArray, List.set_cons_zero, List.set_cons_succ]
  refine held_call 5 (by kernel_rfl) rfl (by rfl) (fun K hK => ?_)
  go_simp
  refine (RS.out wq1 (b2.out.trans (bq1.out.mono b2.out.size))).mono ?_
  rintro e wq2 ⟨rfl, hb⟩
  have bq2 := Lib.hid (bq1.out.trans ((hb).mono bq1.out.size))
  go_wp2_with fail
  refine hK.out _ _ (SK.out _ bq2.out) (fun hHeld => ?_)
  try simp only [Act.put, List.setIfInBounds_toArray, List.set_cons_zero, List.set_cons_succ]
  refine held_take 6 (.bool false) rfl (by kernel_rfl) (by kernel_rfl) (by kernel_rfl) (fun _ _ _ h => h) (by rfl) (by intro w' hS; go_simp) (by assumption) ?_
  try simp only [Act.put, List.setIfInBounds_toArray, List.set_cons_zero, List.set_cons_succ]
  refine held_take 7 (.bool false) rfl (by kernel_rfl) (by kernel_rfl) (by kernel_rfl) (fun _ _ _ h => h) (by rfl) (by intro w' hS; go_simp) (by assumption) ?_
  try simp only [Act.put, List.setIfInBounds_toArray, List.set_cons_zero, List.set_cons_succ]
  refine held_take 8 (.bool false) rfl (by kernel_rfl) (by kernel_rfl) (by kernel_rfl) (fun _ _ _ h => h) (by rfl) (by intro w' hS; go_simp) (by assumption) ?_
  try simp only [Act.put, List.setIfInBounds_toArray, List.set_cons_zero, List.set_cons_succ]
  refine held_take 9 (.slice s.sa s.sl s.sc) rfl (by kernel_rfl) (by kernel_rfl) (by kernel_rfl) (fun _ _ _ h => h) (by rfl) (by intro w' hS; go_simp) (by assumption) ?_
  try simp only [Act.put, List.setIfInBounds_toArray, List.set_cons_zero, List.set_cons_succ]
  refine held_take 11 (.pointer (some ⟨w.heap.size, 1, none⟩)) rfl (by kernel_rfl) (by kernel_rfl) (by kernel_rfl) (fun _ _ _ h => h) (by rfl) (by intro w' hS; go_simp) (by assumption) ?_
  try simp only [Act.put, List.setIfInBounds_toArray, List.set_cons_zero, List.set_cons_succ]
  refine held_take 12 (.slice x.ca x.cl x.cc) rfl (by kernel_rfl) (by kernel_rfl) (by kernel_rfl) (fun _ _ _ h => h) (by rfl) (by intro w' hS; go_simp) (by assumption) ?_
  try simp only [Act.put, List.setIfInBounds_toArray, List.set_cons_zero, List.set_cons_succ]
  refine held_take 13 (.int .i64 x.cl) rfl (by kernel_rfl) (by kernel_rfl) (by kernel_rfl) (fun _ _ _ h => h) (by rfl) (by intro w' hS; go_simp) (by assumption) ?_
  try simp only [Act.put, List.setIfInBounds_toArray, List.set_cons_zero, List.set_cons_succ]
  refine held_call 10 (by kernel_rfl) rfl (by rfl) (fun K hK => ?_)
  go_simp
  refine (SZ.out wq2 (b2.out.trans (bq2.out.mono b2.out.size))).mono ?_
  rintro e wq3 ⟨rfl, hb⟩
  have bq3 := Lib.hid (bq2.out.trans ((hb).mono bq2.out.size))
  go_wp2_with fail
  refine hK.out _ _ (SK.out _ bq3.out) (fun hHeld => ?_)
  try simp only [Act.put, List.setIfInBounds_toArray, List.set_cons_zero, List.set_cons_succ]
  refine held_take 14 (.bool true) rfl (by kernel_rfl) (by kernel_rfl) (by kernel_rfl) (fun _ _ _ h => h) (by rfl) (by intro w' hS; go_simp) (by assumption) ?_
  try simp only [Act.put, List.setIfInBounds_toArray, List.set_cons_zero, List.set_cons_succ]
  refine held_take 15 (.bool true) rfl (by kernel_rfl) (by kernel_rfl) (by kernel_rfl) (fun _ _ _ h => h) (by rfl) (by intro w' hS; go_simp) (by assumption) ?_
  try simp only [Act.put, List.setIfInBounds_toArray, List.set_cons_zero, List.set_cons_succ]
  refine wpAnyH_done (by kernel_rfl) ?_ _
  have b3 := Lib.hid (b2.out.trans (bq3.out.mono b2.out.size))
  have JX3 := Lib.hid (JX.out.kept bq3.out)
  have JG3 := Lib.hid (JG.out.kept bq3.out)
  have JT3 := Lib.hid (JT.out.kept bq3.out)
  have KT3 := Lib.hid (KT.out.kept bq3.out)
  clear JX JG JT KT SK
  obtain ⟨t0, t1', -, -⟩ := JT3.out.see
  obtain ⟨j0, j1, -, -⟩ := JX3.out.see
  obtain ⟨k0, k1, -, -⟩ := JG3.out.see
  go_wp2_with fail
  clear j0 j1 k0 k1 t0 t1'
  refine (T2N.out wq3 b3.out).mono ?_
  rintro e yb h'
  obtain ⟨V1, V2, V3, V4, rfl, GV, hb8⟩ := tres_open (n := x.sl) (m := g.cl) h' HXS.out HGC.out
  obtain ⟨w8, hw8, JV, zx, -⟩ := grid_box yb (.slice V1 x.sl V2) (.slice V3 g.cl V4)
  have q := hb8.trans (zx.out.mono hb8.size)
  have b8 := Lib.hid (b3.out.trans (q.mono b3.out.size))
  have JX8 := Lib.hid (JX3.out.kept q)
  have JG8 := Lib.hid (JG3.out.kept q)
  have KV8 := Lib.hid (GV.kept zx.out)
  clear h' GV hb8 q zx T2N JX3 JG3
  go_upto_region 17 with (fail)
  rw [hw8.out]
  obtain ⟨j0, j1, -, -⟩ := JX8.out.see
  go_wp2_with fail
  clear j0 j1
  refine (RX.out w8 b8.out).mono ?_
  rintro e w9 ⟨rfl, hb9⟩
  have b9 := Lib.hid (b8.out.trans (hb9.mono b8.out.size))
  have JX9 := Lib.hid (JX8.out.kept hb9)
  have JG9 := Lib.hid (JG8.out.kept hb9)
  have JV9 := Lib.hid (JV.out.kept hb9)
  have KV9 := Lib.hid (KV8.out.kept hb9)
  clear hb9 JX8 JG8 JV KV8
  obtain ⟨k0, k1, -, -⟩ := JG9.out.see
  go_wp2_with fail
  clear k0 k1
  refine (RG.out w9 b9.out).mono ?_
  rintro e w10 ⟨rfl, hb10⟩
  have b10 := Lib.hid (b9.out.trans (hb10.mono b9.out.size))
  replace JX9 := Lib.hid (JX9.out.kept hb10)
  replace JG9 := Lib.hid (JG9.out.kept hb10)
  replace JV9 := Lib.hid (JV9.out.kept hb10)
  replace KV9 := Lib.hid (KV9.out.kept hb10)
  clear hb10
  obtain ⟨j0, j1, -, -⟩ := JX9.out.see
  obtain ⟨k0, k1, -, -⟩ := JG9.out.see
  obtain ⟨v0, v1, -, -⟩ := JV9.out.see
  go_wp2_with fail
  clear v0 v1 j0 j1 k0 k1
  have EQ := tequal_any V1 x.sl V2 x.ss V3 g.cl V4 g.cs x.sa x.sl x.sc x.ss g.ca g.cl g.cc g.cs w10 KV9.out.1.1 KV9.out.1.2.1 (HX.out w10 b10.out).1.1 (HG.out w10 b10.out).1.2.1
  rw [show sameT x.ss g.cs x.ss g.cs = true by unfold sameT; rw [sameL_self, sameL_self]; rfl] at EQ
  refine EQ.mono ?_
  rintro e w11 ⟨rfl, hb11⟩
  have b11 := Lib.hid (b10.out.trans (hb11.mono b10.out.size))
  clear hb11 EQ
  go_wp2_with fail
  refine (awake09_any _).mono ?_
  rintro e w20 ⟨rfl, hb20⟩
  have b20 := Lib.hid (b11.out.trans (hb20.mono b11.out.size))
  clear hb20
  go_wp2_with fail
  go_ret
  exact ⟨rfl, b20.out⟩

set_option maxRecDepth 100000 in
set_option maxHeartbeats 16000000 in
theorem turns_ob (x g s : TV) (w : World) (hx : Good x w) (hg : Good g w) (hS : s.At w ∧ s.CapS) (hs : small9 [x, g] = true) (hl : s.sl ≤ 9) (q1 : rightT x.ss x.cl = true) (q2 : rightS s.ss = true) (q3 : prodI s.ss = x.cl) (q4 : rightT g.ss g.cl = false) :
    Calls Try.prog 6 #[.agg #[.slice x.sa x.sl x.sc, .slice x.ca x.cl x.cc], .agg #[.slice g.sa g.sl g.sc, .slice g.ca g.cl g.cc], .slice s.sa s.sl s.sc] w fun e w' => e = .returned (.bool true) ∧ Below w.heap.size w w' := by
  have hw9 := small9_le hs
  have hxl : x.cl ≤ 1000 := by have := wtsM_mem (t := x) (ts := [x, g]) (by simp); omega
  have hgl : g.cl ≤ 1000 := by have := wtsM_mem (t := g) (ts := [x, g]) (by simp); omega
  have okx := hx.ok
  have okg := hg.ok
  rw [q1] at okx
  have lx : (pr x).2.length = x.cl := hx.len
  have lg : (pr g).2.length = g.cl := hg.len
  have RX := fun w1 (hb : Below w.heap.size w w1) => right9_any x.sa x.sl x.sc x.ss x.ca x.cl x.cc w1 (hx.kept hb).1.1 (by omega)
  rw [q1] at RX
  have TN := fun w1 (hb : Below w.heap.size w w1) => turn_any x s.sa s.sl s.sc s.ss w1 (hx.kept hb) (hS.1.kept hb).1 hxl
  have T2N := fun w1 (hb : Below w.heap.size w w1) => tback_any x g w1 (hx.kept hb) (hg.kept hb) hgl
  have HX := Lib.hid (fun w1 (hb : Below w.heap.size w w1) => hx.kept hb)
  have HG := Lib.hid (fun w1 (hb : Below w.heap.size w w1) => hg.kept hb)
  have HS := Lib.hid (fun w1 (hb : Below w.heap.size w w1) => (hS.1.kept hb).1)
  have HSL := Lib.hid hS.1.1.1
  have HCL := Lib.hid hx.len
  have HXS := Lib.hid hx.slen
  have HGC := Lib.hid hg.len
  have d9 : ¬ (9 : Int) < (s.sl : Int) := by omega
  have RS := fun w1 (hb : Below w.heap.size w w1) => (refshape_any s.sa s.sl s.sc s.ss w1 (hS.1.kept hb).1).mono (fun _ w' (h : _ ∧ w1 = w') => (⟨h.1, h.2 ▸ Below.refl _ _⟩ : _ ∧ Below w1.heap.size w1 w'))
  rw [q2] at RS
  have SZ := fun w1 (hb : Below w.heap.size w w1) => (refsize_any s.sa s.sl s.sc s.ss w1 (hS.1.kept hb).1 q2).mono (fun _ w' (h : _ ∧ w1 = w') => (⟨h.1, h.2 ▸ Below.refl _ _⟩ : _ ∧ Below w1.heap.size w1 w'))
  have dq : ((x.cl : Int) != (x.cl : Int)) = false := by simp
  have rt : rightT s.ss x.cl = true := (rightT_yes q2 (by omega)).symm
  simp only [turn_o (s := s.ss) okx (by rw [lx]; exact rt)] at TN
  have HTB : Hid (tbackR (pr x) (s.ss, x.cs) = (0, (x.ss, x.cs))) := Lib.hid (by rw [tback_t okx]; exact turn_o (by show rightT s.ss x.cs.length = true; rw [hx.len]; exact rt) (by show rightT x.ss x.cs.length = true; rw [hx.len]; exact q1))
  rw [q4] at okg
  have RG := fun w1 (hb : Below w.heap.size w w1) => right9_any g.sa g.sl g.sc g.ss g.ca g.cl g.cc w1 (hg.kept hb).1.1 (by omega)
  rw [q4] at RG
  replace RG := Lib.hid RG
  simp only [tback_t okx, turn_a okg] at T2N
  rw [q3] at SZ
  replace TN : ∀ w1, Below w.heap.size w w1 → Calls _ _ _ w1 (TRes w1 (0, (s.ss, x.cs))) := TN
  replace RX := Lib.hid RX
  replace TN := Lib.hid TN
  replace T2N := Lib.hid T2N
  replace RS := Lib.hid RS
  replace SZ := Lib.hid SZ
  obtain ⟨wA, hwA, J1, z1, n1⟩ := grid_box w (.slice x.sa x.sl x.sc) (.slice x.ca x.cl x.cc)
  obtain ⟨wB, hwB, J2, z2, n2⟩ := grid_box wA (.slice g.sa g.sl g.sc) (.slice g.ca g.cl g.cc)
  rw [n1.out] at J2
  have z := Lib.hid (z1.out.trans (z2.out.mono z1.out.size))
  have J := Lib.hid (J1.out.kept z2.out)
  obtain ⟨r1, hr1, gs1, zr1⟩ := gsl_made2 wB x g (hx.kept z.out) (hg.kept z.out)
  have SM := small9_any _ 2 2 _ r1 gs1.out.at_
  rw [hs] at SM
  have SM1 := Lib.hid SM
  clear SM hs hx hg hS hl hw9 okx okg lx lg q1 q2 q3 q4 rt
  obtain ⟨j0, j1, -, -⟩ := J.out.see
  obtain ⟨k0, k1, -, -⟩ := J2.out.see
  have hr1' := hr1.out
  go_enter Try.func6, Try.ntmps6
  go_upto_region 1 with (fail)
  rw [hwA.out, hwB.out]
  go_wp2_with fail
  clear hr1' j0 j1 k0 k1
  refine SM1.out.mono ?_
  rintro e w1 ⟨rfl, hb1⟩
  have q1 := zr1.out.trans (hb1.mono zr1.out.size)
  have b1 := Lib.hid (z.out.trans (q1.mono z.out.size))
  have JX := Lib.hid (J.out.kept q1)
  have JG := Lib.hid (J2.out.kept q1)
  clear hb1 q1 SM1 J1 J J2 gs1 zr1 hr1
  obtain ⟨j0, j1, -, -⟩ := JX.out.see
  go_wp2_with fail
  clear j0 j1
  refine (TN.out w1 b1.out).mono ?_
  rintro e y2 h'
  obtain ⟨T1, T2, T3, T4, rfl, GT, hb2⟩ := tres_open (n := s.sl) (m := x.cl) h' HSL.out HCL.out
  obtain ⟨w2, hw2, JT, zx, -⟩ := grid_box y2 (.slice T1 s.sl T2) (.slice T3 x.cl T4)
  have q := hb2.trans (zx.out.mono hb2.size)
  have b2 := Lib.hid (b1.out.trans (q.mono b1.out.size))
  replace JX := Lib.hid (JX.out.kept q)
  replace JG := Lib.hid (JG.out.kept q)
  have KT := Lib.hid (GT.kept zx.out)
  clear h' GT hb2 q zx TN
  go_upto_region 4 with (fail)
  rw [hw2.out]
  have SK := Lib.hid (fun w' (hb : Below w2.heap.size w2 w') => (show w'.cell? ⟨w.heap.size, 0, none⟩ = some (.slice x.sa x.sl x.sc) ∧ w'.cell? ⟨w.heap.size, 1, none⟩ = some (.slice x.ca x.cl x.cc) from ⟨(JX.out.kept hb).see.1, (JX.out.kept hb).see.2.1⟩))
  have t1 := Lib.hid (show Below w2.heap.size w2 w2.drew from (Below.refl _ _).drew)
  refine wp_region_held_drew (S := fun w' => w'.cell? ⟨w.heap.size, 0, none⟩ = some (.slice x.sa x.sl x.sc) ∧ w'.cell? ⟨w.heap.size, 1, none⟩ = some (.slice x.ca x.cl x.cc)) (by kernel_rfl) (SK.out _ t1.out) (fun hHeld => ?_)
  refine held_take 0 (.agg #[.slice x.sa x.sl x.sc, .slice x.ca x.cl x.cc]) rfl (by kernel_rfl) (by kernel_rfl) (by kernel_rfl) (fun _ _ _ h => h) (by rfl) (by intro w' hS; go_simp) (by assumption) ?_
  try simp only [Act.put, List.setIfInBounds_toArray, List.set_cons_zero, List.set_cons_succ]
  refine held_call 1 (by kernel_rfl) rfl (by rfl) (fun K hK => ?_)
  go_simp
  refine (RX.out w2.drew (b2.out.trans (t1.out.mono b2.out.size))).mono ?_
  rintro e wq1 ⟨rfl, hb⟩
  have bq1 := Lib.hid (t1.out.trans ((hb).mono t1.out.size))
  go_wp2_with fail
  refine hK.out _ _ (SK.out _ bq1.out) (fun hHeld => ?_)
  try simp only [Act.put, List.setIfInBounds_toArray, List.set_cons_zero, List.set_cons_succ]
  refine held_take 2 (.bool false) rfl (by kernel_rfl) (by kernel_rfl) (by kernel_rfl) (fun _ _ _ h => h) (by rfl) (by intro w' hS; go_simp) (by assumption) ?_
  try simp only [Act.put, List.setIfInBounds_toArray, List.set_cons_zero, List.set_cons_succ]
  refine held_take 3 (.bool false) rfl (by kernel_rfl) (by kernel_rfl) (by kernel_rfl) (fun _ _ _ h => h) (by rfl) (by intro w' hS; go_simp) (by assumption) ?_
  try simp only [Act.put, List.setIfInBounds_toArray, List.set_cons_zero, List.set_cons_succ]
  refine held_take 4 (.slice s.sa s.sl s.sc) rfl (by kernel_rfl) (by kernel_rfl) (by kernel_rfl) (fun _ _ _ h => h) (by rfl) (by intro w' hS; go_simp) (by assumption) ?_
  try simp only [Act.put, List.setIfInBounds_toArray, List.set_cons_zero, List.set_cons_succ]
  refine held_call 5 (by kernel_rfl) rfl (by rfl) (fun K hK => ?_)
  go_simp
  refine (RS.out wq1 (b2.out.trans (bq1.out.mono b2.out.size))).mono ?_
  rintro e wq2 ⟨rfl, hb⟩
  have bq2 := Lib.hid (bq1.out.trans ((hb).mono bq1.out.size))
  go_wp2_with fail
  refine hK.out _ _ (SK.out _ bq2.out) (fun hHeld => ?_)
  try simp only [Act.put, List.setIfInBounds_toArray, List.set_cons_zero, List.set_cons_succ]
  refine held_take 6 (.bool false) rfl (by kernel_rfl) (by kernel_rfl) (by kernel_rfl) (fun _ _ _ h => h) (by rfl) (by intro w' hS; go_simp) (by assumption) ?_
  try simp only [Act.put, List.setIfInBounds_toArray, List.set_cons_zero, List.set_cons_succ]
  refine held_take 7 (.bool false) rfl (by kernel_rfl) (by kernel_rfl) (by kernel_rfl) (fun _ _ _ h => h) (by rfl) (by intro w' hS; go_simp) (by assumption) ?_
  try simp only [Act.put, List.setIfInBounds_toArray, List.set_cons_zero, List.set_cons_succ]
  refine held_take 8 (.bool false) rfl (by kernel_rfl) (by kernel_rfl) (by kernel_rfl) (fun _ _ _ h => h) (by rfl) (by intro w' hS; go_simp) (by assumption) ?_
  try simp only [Act.put, List.setIfInBounds_toArray, List.set_cons_zero, List.set_cons_succ]
  refine held_take 9 (.slice s.sa s.sl s.sc) rfl (by kernel_rfl) (by kernel_rfl) (by kernel_rfl) (fun _ _ _ h => h) (by rfl) (by intro w' hS; go_simp) (by assumption) ?_
  try simp only [Act.put, List.setIfInBounds_toArray, List.set_cons_zero, List.set_cons_succ]
  refine held_take 11 (.pointer (some ⟨w.heap.size, 1, none⟩)) rfl (by kernel_rfl) (by kernel_rfl) (by kernel_rfl) (fun _ _ _ h => h) (by rfl) (by intro w' hS; go_simp) (by assumption) ?_
  try simp only [Act.put, List.setIfInBounds_toArray, List.set_cons_zero, List.set_cons_succ]
  refine held_take 12 (.slice x.ca x.cl x.cc) rfl (by kernel_rfl) (by kernel_rfl) (by kernel_rfl) (fun _ _ _ h => h) (by rfl) (by intro w' hS; go_simp) (by assumption) ?_
  try simp only [Act.put, List.setIfInBounds_toArray, List.set_cons_zero, List.set_cons_succ]
  refine held_take 13 (.int .i64 x.cl) rfl (by kernel_rfl) (by kernel_rfl) (by kernel_rfl) (fun _ _ _ h => h) (by rfl) (by intro w' hS; go_simp) (by assumption) ?_
  try simp only [Act.put, List.setIfInBounds_toArray, List.set_cons_zero, List.set_cons_succ]
  refine held_call 10 (by kernel_rfl) rfl (by rfl) (fun K hK => ?_)
  go_simp
  refine (SZ.out wq2 (b2.out.trans (bq2.out.mono b2.out.size))).mono ?_
  rintro e wq3 ⟨rfl, hb⟩
  have bq3 := Lib.hid (bq2.out.trans ((hb).mono bq2.out.size))
  go_wp2_with fail
  refine hK.out _ _ (SK.out _ bq3.out) (fun hHeld => ?_)
  try simp only [Act.put, List.setIfInBounds_toArray, List.set_cons_zero, List.set_cons_succ]
  refine held_take 14 (.bool false) rfl (by kernel_rfl) (by kernel_rfl) (by kernel_rfl) (fun _ _ _ h => h) (by rfl) (by intro w' hS; go_simp) (by assumption) ?_
  try simp only [Act.put, List.setIfInBounds_toArray, List.set_cons_zero, List.set_cons_succ]
  refine held_take 15 (.bool false) rfl (by kernel_rfl) (by kernel_rfl) (by kernel_rfl) (fun _ _ _ h => h) (by rfl) (by intro w' hS; go_simp) (by assumption) ?_
  try simp only [Act.put, List.setIfInBounds_toArray, List.set_cons_zero, List.set_cons_succ]
  refine wpAnyH_done (by kernel_rfl) ?_ _
  have b3 := Lib.hid (b2.out.trans (bq3.out.mono b2.out.size))
  have JX3 := Lib.hid (JX.out.kept bq3.out)
  have JG3 := Lib.hid (JG.out.kept bq3.out)
  have JT3 := Lib.hid (JT.out.kept bq3.out)
  have KT3 := Lib.hid (KT.out.kept bq3.out)
  clear JX JG JT KT SK
  obtain ⟨t0, t1', -, -⟩ := JT3.out.see
  obtain ⟨j0, j1, -, -⟩ := JX3.out.see
  go_wp2_with fail
  clear j0 j1 t0 t1'
  have TB := tback_any x ⟨T1, s.sl, T2, s.ss, T3, x.cl, T4, x.cs⟩ wq3 (HX.out _ b3.out) KT3.out hxl
  rw [show pr ⟨T1, s.sl, T2, s.ss, T3, x.cl, T4, x.cs⟩ = (s.ss, x.cs) from rfl, HTB.out] at TB
  refine TB.mono ?_
  rintro e y4 h'
  obtain ⟨U1, U2, U3, U4, rfl, GU, hb4⟩ := tres_open (n := x.sl) (m := x.cl) h' HXS.out HCL.out
  obtain ⟨w4, hw4, JU, zx, -⟩ := grid_box y4 (.slice U1 x.sl U2) (.slice U3 x.cl U4)
  have q := hb4.trans (zx.out.mono hb4.size)
  have b4 := Lib.hid (b3.out.trans (q.mono b3.out.size))
  have JX4 := Lib.hid (JX3.out.kept q)
  have JG4 := Lib.hid (JG3.out.kept q)
  have JT4 := Lib.hid (JT3.out.kept q)
  have KT4 := Lib.hid (KT3.out.kept q)
  have KU4 := Lib.hid (GU.kept zx.out)
  clear h' GU hb4 q zx TB JX3 JG3 JT3 KT3
  go_upto_region 8 with (fail)
  rw [hw4.out]
  obtain ⟨t0, t1', -, -⟩ := JT4.out.see
  go_wp2_with fail
  have SE := same_any T1 s.sl T2 s.ss s.sa s.sl s.sc s.ss w4 KT4.out.1.1 (HS.out w4 b4.out)
  rw [sameL_self] at SE
  refine SE.mono ?_
  rintro e w5 ⟨rfl, nq, rfl⟩
  have q := below_drewN' (Below.refl w4.heap.size w4) nq
  have b5 := Lib.hid (b4.out.trans (q.mono b4.out.size))
  have JX5 := Lib.hid (JX4.out.kept q)
  have JG5 := Lib.hid (JG4.out.kept q)
  have JT5 := Lib.hid (JT4.out.kept q)
  have JU5 := Lib.hid (JU.out.kept q)
  have KT5 := Lib.hid (KT4.out.kept q)
  have KU5 := Lib.hid (KU4.out.kept q)
  obtain ⟨w5, hw5⟩ : ∃ w5, w4.drewN nq = w5 := ⟨_, rfl⟩
  rw [hw5] at b5 JX5 JG5 JT5 JU5 KT5 KU5 ⊢
  clear q SE JX4 JG4 JT4 JU KT4 KU4 t0 t1' hw5
  obtain ⟨u0, u1, -, -⟩ := JU5.out.see
  obtain ⟨j0, j1, -, -⟩ := JX5.out.see
  go_wp2_with fail
  have EQ := tequal_any U1 x.sl U2 x.ss U3 x.cl U4 x.cs x.sa x.sl x.sc x.ss x.ca x.cl x.cc x.cs w5 KU5.out.1.1 KU5.out.1.2.1 (HX.out w5 b5.out).1.1 (HX.out w5 b5.out).1.2.1
  rw [show sameT x.ss x.cs x.ss x.cs = true by unfold sameT; rw [sameL_self, sameL_self]; rfl] at EQ
  refine EQ.mono ?_
  rintro e w6 ⟨rfl, hb6⟩
  have b6 := Lib.hid (b5.out.trans (hb6.mono b5.out.size))
  have JX6 := Lib.hid (JX5.out.kept hb6)
  have JG6 := Lib.hid (JG5.out.kept hb6)
  have JT6 := Lib.hid (JT5.out.kept hb6)
  have KT6 := Lib.hid (KT5.out.kept hb6)
  clear EQ JX5 JG5 JT5 JU5 KT5 KU5 u0 u1 j0 j1 hb6
  obtain ⟨t0, t1', -, -⟩ := JT6.out.see
  go_wp2_with fail
  clear t0 t1'
  go_loopw [83] (fun i wr => ∃ j : Nat, j ≤ x.cl ∧ i = .int .i64 j ∧ Hid (Below w6.heap.size w6 wr)) (fun i _ => x.cl - (intOf i).toNat)
  case atStart => exact ⟨0, Nat.zero_le _, rfl, Lib.hid (Below.refl _ _)⟩
  case round =>
    obtain ⟨j, hj, rfl, hbr⟩ := hrel
    by_cases hlt : j < x.cl
    · obtain ⟨tb, to', hta, htc⟩ := ints_cell (KT6.out.kept hbr.out).1.2.1 (by show 0 < x.cl; omega)
      obtain ⟨xb, xo, hxa, hxc⟩ := ints_cell ((HX.out w6 b6.out).kept hbr.out).1.2.1 (by omega)
      have e1 := htc j hlt
      have e2 := hxc j hlt
      obtain ⟨v, hv⟩ : ∃ v, x.cs.getD j 0 = v := ⟨_, rfl⟩
      replace e1 : wr.cell? ⟨tb, to' + j, none⟩ = some (.int .i64 v) := by rw [← hv]; exact e1
      rw [hv] at e2
      have JXr := JX6.out.kept hbr.out
      have JTr := JT6.out.kept hbr.out
      have hta' : T3 = some ⟨tb, to', none⟩ := hta
      rw [hta'] at JTr
      rw [hxa] at JXr
      have HE1 := Lib.hid e1
      have HE2 := Lib.hid e2
      have JXr' := Lib.hid JXr
      have JTr' := Lib.hid JTr
      clear e1 e2 JXr JTr hta hta' hxa htc hxc hv 
      go_wp2_with fail
      have SK := Lib.hid (fun w' (hb : Below wr.heap.size wr w') => (show w'.cell? ⟨w.heap.size, 1, none⟩ = some (.slice (some ⟨xb, xo, none⟩) x.cl x.cc) ∧ w'.cell? ⟨y2.heap.size, 1, none⟩ = some (.slice (some ⟨tb, to', none⟩) x.cl T4) ∧ w'.cell? ⟨tb, to' + j, none⟩ = some (.int .i64 v) ∧ w'.cell? ⟨xb, xo + j, none⟩ = some (.int .i64 v) from ⟨(JXr'.out.kept hb).see.2.1, (JTr'.out.kept hb).see.2.1, cell_later hb HE1.out, cell_later hb HE2.out⟩))
      have t1 := Lib.hid (show Below wr.heap.size wr wr.drew from (Below.refl _ _).drew)
      refine wp_region_held_drew (S := fun w' => w'.cell? ⟨w.heap.size, 1, none⟩ = some (.slice (some ⟨xb, xo, none⟩) x.cl x.cc) ∧ w'.cell? ⟨y2.heap.size, 1, none⟩ = some (.slice (some ⟨tb, to', none⟩) x.cl T4) ∧ w'.cell? ⟨tb, to' + j, none⟩ = some (.int .i64 v) ∧ w'.cell? ⟨xb, xo + j, none⟩ = some (.int .i64 v)) (by kernel_rfl) (SK.out _ t1.out) (fun hHeld => ?_)
      refine held_take 0 (.int .i64 j) rfl (by kernel_rfl) (by kernel_rfl) (by kernel_rfl) (fun _ _ _ h => h) (by rfl) (by intro w' hS; go_simp) (by assumption) ?_
      try simp only [Act.put, List.setIfInBounds_toArray, List.set_cons_zero, List.set_cons_succ]
      refine held_take 1 (.pointer (some ⟨w.heap.size, 1, none⟩)) rfl (by kernel_rfl) (by kernel_rfl) (by kernel_rfl) (fun _ _ _ h => h) (by rfl) (by intro w' hS; go_simp) (by assumption) ?_
      try simp only [Act.put, List.setIfInBounds_toArray, List.set_cons_zero, List.set_cons_succ]
      refine held_take 2 (.slice (some ⟨xb, xo, none⟩) x.cl x.cc) rfl (by kernel_rfl) (by kernel_rfl) (by kernel_rfl) (fun _ _ _ h => h) (by rfl) (by intro w' hS; go_simp) (by assumption) ?_
      try simp only [Act.put, List.setIfInBounds_toArray, List.set_cons_zero, List.set_cons_succ]
      refine held_take 3 (.int .i64 x.cl) rfl (by kernel_rfl) (by kernel_rfl) (by kernel_rfl) (fun _ _ _ h => h) (by rfl) (by intro w' hS; go_simp) (by assumption) ?_
      try simp only [Act.put, List.setIfInBounds_toArray, List.set_cons_zero, List.set_cons_succ]
      refine held_take 4 (.bool false) rfl (by kernel_rfl) (by kernel_rfl) (by kernel_rfl) (fun _ _ _ h => h) (by rfl) (by intro w' hS; go_simp) (by assumption) ?_
      try simp only [Act.put, List.setIfInBounds_toArray, List.set_cons_zero, List.set_cons_succ]
      refine held_take 5 (.bool false) rfl (by kernel_rfl) (by kernel_rfl) (by kernel_rfl) (fun _ _ _ h => h) (by rfl) (by intro w' hS; go_simp) (by assumption) ?_
      try simp only [Act.put, List.setIfInBounds_toArray, List.set_cons_zero, List.set_cons_succ]
      refine held_take 6 (.pointer (some ⟨y2.heap.size, 1, none⟩)) rfl (by kernel_rfl) (by kernel_rfl) (by kernel_rfl) (fun _ _ _ h => h) (by rfl) (by intro w' hS; go_simp) (by assumption) ?_
      try simp only [Act.put, List.setIfInBounds_toArray, List.set_cons_zero, List.set_cons_succ]
      refine held_take 7 (.slice (some ⟨tb, to', none⟩) x.cl T4) rfl (by kernel_rfl) (by kernel_rfl) (by kernel_rfl) (fun _ _ _ h => h) (by rfl) (by intro w' hS; go_simp) (by assumption) ?_
      try simp only [Act.put, List.setIfInBounds_toArray, List.set_cons_zero, List.set_cons_succ]
      refine held_take 8 (.int .i64 j) rfl (by kernel_rfl) (by kernel_rfl) (by kernel_rfl) (fun _ _ _ h => h) (by rfl) (by intro w' hS; go_simp) (by assumption) ?_
      try simp only [Act.put, List.setIfInBounds_toArray, List.set_cons_zero, List.set_cons_succ]
      refine held_take 9 (.pointer (some ⟨tb, to' + j, none⟩)) rfl (by kernel_rfl) (by kernel_rfl) (by kernel_rfl) (fun _ _ _ h => h) (by rfl) (by intro w' hS; go_simp) (by assumption) ?_
      try simp only [Act.put, List.setIfInBounds_toArray, List.set_cons_zero, List.set_cons_succ]
      refine held_take 10 (.int .i64 v) rfl (by kernel_rfl) (by kernel_rfl) (by kernel_rfl) (fun _ _ _ h => h) (by rfl) (by intro w' hS; go_simp) (by assumption) ?_
      try simp only [Act.put, List.setIfInBounds_toArray, List.set_cons_zero, List.set_cons_succ]
      refine held_take 11 (.pointer (some ⟨w.heap.size, 1, none⟩)) rfl (by kernel_rfl) (by kernel_rfl) (by kernel_rfl) (fun _ _ _ h => h) (by rfl) (by intro w' hS; go_simp) (by assumption) ?_
      try simp only [Act.put, List.setIfInBounds_toArray, List.set_cons_zero, List.set_cons_succ]
      refine held_take 12 (.slice (some ⟨xb, xo, none⟩) x.cl x.cc) rfl (by kernel_rfl) (by kernel_rfl) (by kernel_rfl) (fun _ _ _ h => h) (by rfl) (by intro w' hS; go_simp) (by assumption) ?_
      try simp only [Act.put, List.setIfInBounds_toArray, List.set_cons_zero, List.set_cons_succ]
      refine held_take 13 (.int .i64 j) rfl (by kernel_rfl) (by kernel_rfl) (by kernel_rfl) (fun _ _ _ h => h) (by rfl) (by intro w' hS; go_simp) (by assumption) ?_
      try simp only [Act.put, List.setIfInBounds_toArray, List.set_cons_zero, List.set_cons_succ]
      refine held_take 14 (.pointer (some ⟨xb, xo + j, none⟩)) rfl (by kernel_rfl) (by kernel_rfl) (by kernel_rfl) (fun _ _ _ h => h) (by rfl) (by intro w' hS; go_simp) (by assumption) ?_
      try simp only [Act.put, List.setIfInBounds_toArray, List.set_cons_zero, List.set_cons_succ]
      refine held_take 15 (.int .i64 v) rfl (by kernel_rfl) (by kernel_rfl) (by kernel_rfl) (fun _ _ _ h => h) (by rfl) (by intro w' hS; go_simp) (by assumption) ?_
      try simp only [Act.put, List.setIfInBounds_toArray, List.set_cons_zero, List.set_cons_succ]
      refine held_take 16 (.bool false) rfl (by kernel_rfl) (by kernel_rfl) (by kernel_rfl) (fun _ _ _ h => h) (by rfl) (by intro w' hS; go_simp) (by assumption) ?_
      try simp only [Act.put, List.setIfInBounds_toArray, List.set_cons_zero, List.set_cons_succ]
      refine held_take 17 (.bool false) rfl (by kernel_rfl) (by kernel_rfl) (by kernel_rfl) (fun _ _ _ h => h) (by rfl) (by intro w' hS; go_simp) (by assumption) ?_
      try simp only [Act.put, List.setIfInBounds_toArray, List.set_cons_zero, List.set_cons_succ]
      refine wpAnyH_done (by kernel_rfl) ?_ _
      have b7 := Lib.hid (hbr.out.trans (t1.out.mono hbr.out.size))
      clear SK t1 HE1 HE2 JXr' JTr'
      go_wp2_with fail
      go_roundw
      case rel => exact ⟨j + 1, by omega, by go_num, b7⟩
      case measure => (simp [intOf]; try omega)
    · obtain rfl : j = x.cl := by omega
      have b7 := Lib.hid (b6.out.trans (hbr.out.mono b6.out.size))
      have JX7 := Lib.hid (JX6.out.kept hbr.out)
      have JG7 := Lib.hid (JG6.out.kept hbr.out)
      clear hbr JX6 JG6 JT6 KT6
      obtain ⟨j0, j1, -, -⟩ := JX7.out.see
      obtain ⟨k0, k1, -, -⟩ := JG7.out.see
      go_wp2_with fail
      clear j0 j1 k0 k1
      refine (T2N.out wr b7.out).mono ?_
      rintro e yb h'
      obtain ⟨V1, V2, V3, V4, rfl, GV, hb8⟩ := tres_open (n := 0) (m := 0) h' rfl rfl
      obtain ⟨w8, hw8, JV, zx, -⟩ := grid_box yb (.slice V1 0 V2) (.slice V3 0 V4)
      have q := hb8.trans (zx.out.mono hb8.size)
      have b8 := Lib.hid (b7.out.trans (q.mono b7.out.size))
      have JX8 := Lib.hid (JX7.out.kept q)
      have JG8 := Lib.hid (JG7.out.kept q)
      have KV8 := Lib.hid (GV.kept zx.out)
      clear h' GV hb8 q zx T2N JX7 JG7
      go_upto_region 17 with (fail)
      rw [hw8.out]
      obtain ⟨j0, j1, -, -⟩ := JX8.out.see
      go_wp2_with fail
      clear j0 j1
      refine (RX.out w8 b8.out).mono ?_
      rintro e w9 ⟨rfl, hb9⟩
      have b9 := Lib.hid (b8.out.trans (hb9.mono b8.out.size))
      have JX9 := Lib.hid (JX8.out.kept hb9)
      have JG9 := Lib.hid (JG8.out.kept hb9)
      have JV9 := Lib.hid (JV.out.kept hb9)
      have KV9 := Lib.hid (KV8.out.kept hb9)
      clear hb9 JX8 JG8 JV KV8
      obtain ⟨k0, k1, -, -⟩ := JG9.out.see
      go_wp2_with fail
      clear k0 k1
      refine (RG.out w9 b9.out).mono ?_
      rintro e w10 ⟨rfl, hb10⟩
      have b10 := Lib.hid (b9.out.trans (hb10.mono b9.out.size))
      replace JX9 := Lib.hid (JX9.out.kept hb10)
      replace JG9 := Lib.hid (JG9.out.kept hb10)
      replace JV9 := Lib.hid (JV9.out.kept hb10)
      replace KV9 := Lib.hid (KV9.out.kept hb10)
      clear hb10
      obtain ⟨v0, v1, -, -⟩ := JV9.out.see
      go_wp2_with fail
      clear v0 v1
      refine (awake09_any _).mono ?_
      rintro e w20 ⟨rfl, hb20⟩
      have b20 := Lib.hid (b10.out.trans (hb20.mono b10.out.size))
      clear hb20
      go_wp2_with fail
      go_ret
      exact ⟨rfl, b20.out⟩

set_option maxRecDepth 100000 in
set_option maxHeartbeats 16000000 in
theorem turns_oc (x g s : TV) (w : World) (hx : Good x w) (hg : Good g w) (hS : s.At w ∧ s.CapS) (hs : small9 [x, g] = true) (hl : s.sl ≤ 9) (q1 : rightT x.ss x.cl = true) (q2 : rightS s.ss = true) (q3 : prodI s.ss = x.cl) (q4 : rightT g.ss g.cl = true) (q5 : g.cl ≠ x.cl) :
    Calls Try.prog 6 #[.agg #[.slice x.sa x.sl x.sc, .slice x.ca x.cl x.cc], .agg #[.slice g.sa g.sl g.sc, .slice g.ca g.cl g.cc], .slice s.sa s.sl s.sc] w fun e w' => e = .returned (.bool true) ∧ Below w.heap.size w w' := by
  have hw9 := small9_le hs
  have hxl : x.cl ≤ 1000 := by have := wtsM_mem (t := x) (ts := [x, g]) (by simp); omega
  have hgl : g.cl ≤ 1000 := by have := wtsM_mem (t := g) (ts := [x, g]) (by simp); omega
  have okx := hx.ok
  have okg := hg.ok
  rw [q1] at okx
  have lx : (pr x).2.length = x.cl := hx.len
  have lg : (pr g).2.length = g.cl := hg.len
  have RX := fun w1 (hb : Below w.heap.size w w1) => right9_any x.sa x.sl x.sc x.ss x.ca x.cl x.cc w1 (hx.kept hb).1.1 (by omega)
  rw [q1] at RX
  have TN := fun w1 (hb : Below w.heap.size w w1) => turn_any x s.sa s.sl s.sc s.ss w1 (hx.kept hb) (hS.1.kept hb).1 hxl
  have T2N := fun w1 (hb : Below w.heap.size w w1) => tback_any x g w1 (hx.kept hb) (hg.kept hb) hgl
  have HX := Lib.hid (fun w1 (hb : Below w.heap.size w w1) => hx.kept hb)
  have HG := Lib.hid (fun w1 (hb : Below w.heap.size w w1) => hg.kept hb)
  have HS := Lib.hid (fun w1 (hb : Below w.heap.size w w1) => (hS.1.kept hb).1)
  have HSL := Lib.hid hS.1.1.1
  have HCL := Lib.hid hx.len
  have HXS := Lib.hid hx.slen
  have HGC := Lib.hid hg.len
  have d9 : ¬ (9 : Int) < (s.sl : Int) := by omega
  have RS := fun w1 (hb : Below w.heap.size w w1) => (refshape_any s.sa s.sl s.sc s.ss w1 (hS.1.kept hb).1).mono (fun _ w' (h : _ ∧ w1 = w') => (⟨h.1, h.2 ▸ Below.refl _ _⟩ : _ ∧ Below w1.heap.size w1 w'))
  rw [q2] at RS
  have SZ := fun w1 (hb : Below w.heap.size w w1) => (refsize_any s.sa s.sl s.sc s.ss w1 (hS.1.kept hb).1 q2).mono (fun _ w' (h : _ ∧ w1 = w') => (⟨h.1, h.2 ▸ Below.refl _ _⟩ : _ ∧ Below w1.heap.size w1 w'))
  have dq : ((x.cl : Int) != (x.cl : Int)) = false := by simp
  have rt : rightT s.ss x.cl = true := (rightT_yes q2 (by omega)).symm
  simp only [turn_o (s := s.ss) okx (by rw [lx]; exact rt)] at TN
  have HTB : Hid (tbackR (pr x) (s.ss, x.cs) = (0, (x.ss, x.cs))) := Lib.hid (by rw [tback_t okx]; exact turn_o (by show rightT s.ss x.cs.length = true; rw [hx.len]; exact rt) (by show rightT x.ss x.cs.length = true; rw [hx.len]; exact q1))
  rw [q4] at okg
  have RG := fun w1 (hb : Below w.heap.size w w1) => right9_any g.sa g.sl g.sc g.ss g.ca g.cl g.cc w1 (hg.kept hb).1.1 (by omega)
  rw [q4] at RG
  replace RG := Lib.hid RG
  simp only [tback_t okx, turn_b (s := (pr x).1) okg (by rw [lg]; exact rightT_other q1 q5)] at T2N
  have dg : ((x.cl : Int) != (g.cl : Int)) = true := bne_iff_ne.2 (by omega)
  rw [q3] at SZ
  replace TN : ∀ w1, Below w.heap.size w w1 → Calls _ _ _ w1 (TRes w1 (0, (s.ss, x.cs))) := TN
  replace RX := Lib.hid RX
  replace TN := Lib.hid TN
  replace T2N := Lib.hid T2N
  replace RS := Lib.hid RS
  replace SZ := Lib.hid SZ
  obtain ⟨wA, hwA, J1, z1, n1⟩ := grid_box w (.slice x.sa x.sl x.sc) (.slice x.ca x.cl x.cc)
  obtain ⟨wB, hwB, J2, z2, n2⟩ := grid_box wA (.slice g.sa g.sl g.sc) (.slice g.ca g.cl g.cc)
  rw [n1.out] at J2
  have z := Lib.hid (z1.out.trans (z2.out.mono z1.out.size))
  have J := Lib.hid (J1.out.kept z2.out)
  obtain ⟨r1, hr1, gs1, zr1⟩ := gsl_made2 wB x g (hx.kept z.out) (hg.kept z.out)
  have SM := small9_any _ 2 2 _ r1 gs1.out.at_
  rw [hs] at SM
  have SM1 := Lib.hid SM
  clear SM hs hx hg hS hl hw9 okx okg lx lg q1 q2 q3 q4 q5 rt
  obtain ⟨j0, j1, -, -⟩ := J.out.see
  obtain ⟨k0, k1, -, -⟩ := J2.out.see
  have hr1' := hr1.out
  go_enter Try.func6, Try.ntmps6
  go_upto_region 1 with (fail)
  rw [hwA.out, hwB.out]
  go_wp2_with fail
  clear hr1' j0 j1 k0 k1
  refine SM1.out.mono ?_
  rintro e w1 ⟨rfl, hb1⟩
  have q1 := zr1.out.trans (hb1.mono zr1.out.size)
  have b1 := Lib.hid (z.out.trans (q1.mono z.out.size))
  have JX := Lib.hid (J.out.kept q1)
  have JG := Lib.hid (J2.out.kept q1)
  clear hb1 q1 SM1 J1 J J2 gs1 zr1 hr1
  obtain ⟨j0, j1, -, -⟩ := JX.out.see
  go_wp2_with fail
  clear j0 j1
  refine (TN.out w1 b1.out).mono ?_
  rintro e y2 h'
  obtain ⟨T1, T2, T3, T4, rfl, GT, hb2⟩ := tres_open (n := s.sl) (m := x.cl) h' HSL.out HCL.out
  obtain ⟨w2, hw2, JT, zx, -⟩ := grid_box y2 (.slice T1 s.sl T2) (.slice T3 x.cl T4)
  have q := hb2.trans (zx.out.mono hb2.size)
  have b2 := Lib.hid (b1.out.trans (q.mono b1.out.size))
  replace JX := Lib.hid (JX.out.kept q)
  replace JG := Lib.hid (JG.out.kept q)
  have KT := Lib.hid (GT.kept zx.out)
  clear h' GT hb2 q zx TN
  go_upto_region 4 with (fail)
  rw [hw2.out]
  have SK := Lib.hid (fun w' (hb : Below w2.heap.size w2 w') => (show w'.cell? ⟨w.heap.size, 0, none⟩ = some (.slice x.sa x.sl x.sc) ∧ w'.cell? ⟨w.heap.size, 1, none⟩ = some (.slice x.ca x.cl x.cc) from ⟨(JX.out.kept hb).see.1, (JX.out.kept hb).see.2.1⟩))
  have t1 := Lib.hid (show Below w2.heap.size w2 w2.drew from (Below.refl _ _).drew)
  refine wp_region_held_drew (S := fun w' => w'.cell? ⟨w.heap.size, 0, none⟩ = some (.slice x.sa x.sl x.sc) ∧ w'.cell? ⟨w.heap.size, 1, none⟩ = some (.slice x.ca x.cl x.cc)) (by kernel_rfl) (SK.out _ t1.out) (fun hHeld => ?_)
  refine held_take 0 (.agg #[.slice x.sa x.sl x.sc, .slice x.ca x.cl x.cc]) rfl (by kernel_rfl) (by kernel_rfl) (by kernel_rfl) (fun _ _ _ h => h) (by rfl) (by intro w' hS; go_simp) (by assumption) ?_
  try simp only [Act.put, List.setIfInBounds_toArray, List.set_cons_zero, List.set_cons_succ]
  refine held_call 1 (by kernel_rfl) rfl (by rfl) (fun K hK => ?_)
  go_simp
  refine (RX.out w2.drew (b2.out.trans (t1.out.mono b2.out.size))).mono ?_
  rintro e wq1 ⟨rfl, hb⟩
  have bq1 := Lib.hid (t1.out.trans ((hb).mono t1.out.size))
  go_wp2_with fail
  refine hK.out _ _ (SK.out _ bq1.out) (fun hHeld => ?_)
  try simp only [Act.put, List.setIfInBounds_toArray, List.set_cons_zero, List.set_cons_succ]
  refine held_take 2 (.bool false) rfl (by kernel_rfl) (by kernel_rfl) (by kernel_rfl) (fun _ _ _ h => h) (by rfl) (by intro w' hS; go_simp) (by assumption) ?_
  try simp only [Act.put, List.setIfInBounds_toArray, List.set_cons_zero, List.set_cons_succ]
  refine held_take 3 (.bool false) rfl (by kernel_rfl) (by kernel_rfl) (by kernel_rfl) (fun _ _ _ h => h) (by rfl) (by intro w' hS; go_simp) (by assumption) ?_
  try simp only [Act.put, List.setIfInBounds_toArray, List.set_cons_zero, List.set_cons_succ]
  refine held_take 4 (.slice s.sa s.sl s.sc) rfl (by kernel_rfl) (by kernel_rfl) (by kernel_rfl) (fun _ _ _ h => h) (by rfl) (by intro w' hS; go_simp) (by assumption) ?_
  try simp only [Act.put, List.setIfInBounds_toArray, List.set_cons_zero, List.set_cons_succ]
  refine held_call 5 (by kernel_rfl) rfl (by rfl) (fun K hK => ?_)
  go_simp
  refine (RS.out wq1 (b2.out.trans (bq1.out.mono b2.out.size))).mono ?_
  rintro e wq2 ⟨rfl, hb⟩
  have bq2 := Lib.hid (bq1.out.trans ((hb).mono bq1.out.size))
  go_wp2_with fail
  refine hK.out _ _ (SK.out _ bq2.out) (fun hHeld => ?_)
  try simp only [Act.put, List.setIfInBounds_toArray, List.set_cons_zero, List.set_cons_succ]
  refine held_take 6 (.bool false) rfl (by kernel_rfl) (by kernel_rfl) (by kernel_rfl) (fun _ _ _ h => h) (by rfl) (by intro w' hS; go_simp) (by assumption) ?_
  try simp only [Act.put, List.setIfInBounds_toArray, List.set_cons_zero, List.set_cons_succ]
  refine held_take 7 (.bool false) rfl (by kernel_rfl) (by kernel_rfl) (by kernel_rfl) (fun _ _ _ h => h) (by rfl) (by intro w' hS; go_simp) (by assumption) ?_
  try simp only [Act.put, List.setIfInBounds_toArray, List.set_cons_zero, List.set_cons_succ]
  refine held_take 8 (.bool false) rfl (by kernel_rfl) (by kernel_rfl) (by kernel_rfl) (fun _ _ _ h => h) (by rfl) (by intro w' hS; go_simp) (by assumption) ?_
  try simp only [Act.put, List.setIfInBounds_toArray, List.set_cons_zero, List.set_cons_succ]
  refine held_take 9 (.slice s.sa s.sl s.sc) rfl (by kernel_rfl) (by kernel_rfl) (by kernel_rfl) (fun _ _ _ h => h) (by rfl) (by intro w' hS; go_simp) (by assumption) ?_
  try simp only [Act.put, List.setIfInBounds_toArray, List.set_cons_zero, List.set_cons_succ]
  refine held_take 11 (.pointer (some ⟨w.heap.size, 1, none⟩)) rfl (by kernel_rfl) (by kernel_rfl) (by kernel_rfl) (fun _ _ _ h => h) (by rfl) (by intro w' hS; go_simp) (by assumption) ?_
  try simp only [Act.put, List.setIfInBounds_toArray, List.set_cons_zero, List.set_cons_succ]
  refine held_take 12 (.slice x.ca x.cl x.cc) rfl (by kernel_rfl) (by kernel_rfl) (by kernel_rfl) (fun _ _ _ h => h) (by rfl) (by intro w' hS; go_simp) (by assumption) ?_
  try simp only [Act.put, List.setIfInBounds_toArray, List.set_cons_zero, List.set_cons_succ]
  refine held_take 13 (.int .i64 x.cl) rfl (by kernel_rfl) (by kernel_rfl) (by kernel_rfl) (fun _ _ _ h => h) (by rfl) (by intro w' hS; go_simp) (by assumption) ?_
  try simp only [Act.put, List.setIfInBounds_toArray, List.set_cons_zero, List.set_cons_succ]
  refine held_call 10 (by kernel_rfl) rfl (by rfl) (fun K hK => ?_)
  go_simp
  refine (SZ.out wq2 (b2.out.trans (bq2.out.mono b2.out.size))).mono ?_
  rintro e wq3 ⟨rfl, hb⟩
  have bq3 := Lib.hid (bq2.out.trans ((hb).mono bq2.out.size))
  go_wp2_with fail
  refine hK.out _ _ (SK.out _ bq3.out) (fun hHeld => ?_)
  try simp only [Act.put, List.setIfInBounds_toArray, List.set_cons_zero, List.set_cons_succ]
  refine held_take 14 (.bool false) rfl (by kernel_rfl) (by kernel_rfl) (by kernel_rfl) (fun _ _ _ h => h) (by rfl) (by intro w' hS; go_simp) (by assumption) ?_
  try simp only [Act.put, List.setIfInBounds_toArray, List.set_cons_zero, List.set_cons_succ]
  refine held_take 15 (.bool false) rfl (by kernel_rfl) (by kernel_rfl) (by kernel_rfl) (fun _ _ _ h => h) (by rfl) (by intro w' hS; go_simp) (by assumption) ?_
  try simp only [Act.put, List.setIfInBounds_toArray, List.set_cons_zero, List.set_cons_succ]
  refine wpAnyH_done (by kernel_rfl) ?_ _
  have b3 := Lib.hid (b2.out.trans (bq3.out.mono b2.out.size))
  have JX3 := Lib.hid (JX.out.kept bq3.out)
  have JG3 := Lib.hid (JG.out.kept bq3.out)
  have JT3 := Lib.hid (JT.out.kept bq3.out)
  have KT3 := Lib.hid (KT.out.kept bq3.out)
  clear JX JG JT KT SK
  obtain ⟨t0, t1', -, -⟩ := JT3.out.see
  obtain ⟨j0, j1, -, -⟩ := JX3.out.see
  go_wp2_with fail
  clear j0 j1 t0 t1'
  have TB := tback_any x ⟨T1, s.sl, T2, s.ss, T3, x.cl, T4, x.cs⟩ wq3 (HX.out _ b3.out) KT3.out hxl
  rw [show pr ⟨T1, s.sl, T2, s.ss, T3, x.cl, T4, x.cs⟩ = (s.ss, x.cs) from rfl, HTB.out] at TB
  refine TB.mono ?_
  rintro e y4 h'
  obtain ⟨U1, U2, U3, U4, rfl, GU, hb4⟩ := tres_open (n := x.sl) (m := x.cl) h' HXS.out HCL.out
  obtain ⟨w4, hw4, JU, zx, -⟩ := grid_box y4 (.slice U1 x.sl U2) (.slice U3 x.cl U4)
  have q := hb4.trans (zx.out.mono hb4.size)
  have b4 := Lib.hid (b3.out.trans (q.mono b3.out.size))
  have JX4 := Lib.hid (JX3.out.kept q)
  have JG4 := Lib.hid (JG3.out.kept q)
  have JT4 := Lib.hid (JT3.out.kept q)
  have KT4 := Lib.hid (KT3.out.kept q)
  have KU4 := Lib.hid (GU.kept zx.out)
  clear h' GU hb4 q zx TB JX3 JG3 JT3 KT3
  go_upto_region 8 with (fail)
  rw [hw4.out]
  obtain ⟨t0, t1', -, -⟩ := JT4.out.see
  go_wp2_with fail
  have SE := same_any T1 s.sl T2 s.ss s.sa s.sl s.sc s.ss w4 KT4.out.1.1 (HS.out w4 b4.out)
  rw [sameL_self] at SE
  refine SE.mono ?_
  rintro e w5 ⟨rfl, nq, rfl⟩
  have q := below_drewN' (Below.refl w4.heap.size w4) nq
  have b5 := Lib.hid (b4.out.trans (q.mono b4.out.size))
  have JX5 := Lib.hid (JX4.out.kept q)
  have JG5 := Lib.hid (JG4.out.kept q)
  have JT5 := Lib.hid (JT4.out.kept q)
  have JU5 := Lib.hid (JU.out.kept q)
  have KT5 := Lib.hid (KT4.out.kept q)
  have KU5 := Lib.hid (KU4.out.kept q)
  obtain ⟨w5, hw5⟩ : ∃ w5, w4.drewN nq = w5 := ⟨_, rfl⟩
  rw [hw5] at b5 JX5 JG5 JT5 JU5 KT5 KU5 ⊢
  clear q SE JX4 JG4 JT4 JU KT4 KU4 t0 t1' hw5
  obtain ⟨u0, u1, -, -⟩ := JU5.out.see
  obtain ⟨j0, j1, -, -⟩ := JX5.out.see
  go_wp2_with fail
  have EQ := tequal_any U1 x.sl U2 x.ss U3 x.cl U4 x.cs x.sa x.sl x.sc x.ss x.ca x.cl x.cc x.cs w5 KU5.out.1.1 KU5.out.1.2.1 (HX.out w5 b5.out).1.1 (HX.out w5 b5.out).1.2.1
  rw [show sameT x.ss x.cs x.ss x.cs = true by unfold sameT; rw [sameL_self, sameL_self]; rfl] at EQ
  refine EQ.mono ?_
  rintro e w6 ⟨rfl, hb6⟩
  have b6 := Lib.hid (b5.out.trans (hb6.mono b5.out.size))
  have JX6 := Lib.hid (JX5.out.kept hb6)
  have JG6 := Lib.hid (JG5.out.kept hb6)
  have JT6 := Lib.hid (JT5.out.kept hb6)
  have KT6 := Lib.hid (KT5.out.kept hb6)
  clear EQ JX5 JG5 JT5 JU5 KT5 KU5 u0 u1 j0 j1 hb6
  obtain ⟨t0, t1', -, -⟩ := JT6.out.see
  go_wp2_with fail
  clear t0 t1'
  go_loopw [83] (fun i wr => ∃ j : Nat, j ≤ x.cl ∧ i = .int .i64 j ∧ Hid (Below w6.heap.size w6 wr)) (fun i _ => x.cl - (intOf i).toNat)
  case atStart => exact ⟨0, Nat.zero_le _, rfl, Lib.hid (Below.refl _ _)⟩
  case round =>
    obtain ⟨j, hj, rfl, hbr⟩ := hrel
    by_cases hlt : j < x.cl
    · obtain ⟨tb, to', hta, htc⟩ := ints_cell (KT6.out.kept hbr.out).1.2.1 (by show 0 < x.cl; omega)
      obtain ⟨xb, xo, hxa, hxc⟩ := ints_cell ((HX.out w6 b6.out).kept hbr.out).1.2.1 (by omega)
      have e1 := htc j hlt
      have e2 := hxc j hlt
      obtain ⟨v, hv⟩ : ∃ v, x.cs.getD j 0 = v := ⟨_, rfl⟩
      replace e1 : wr.cell? ⟨tb, to' + j, none⟩ = some (.int .i64 v) := by rw [← hv]; exact e1
      rw [hv] at e2
      have JXr := JX6.out.kept hbr.out
      have JTr := JT6.out.kept hbr.out
      have hta' : T3 = some ⟨tb, to', none⟩ := hta
      rw [hta'] at JTr
      rw [hxa] at JXr
      have HE1 := Lib.hid e1
      have HE2 := Lib.hid e2
      have JXr' := Lib.hid JXr
      have JTr' := Lib.hid JTr
      clear e1 e2 JXr JTr hta hta' hxa htc hxc hv 
      go_wp2_with fail
      have SK := Lib.hid (fun w' (hb : Below wr.heap.size wr w') => (show w'.cell? ⟨w.heap.size, 1, none⟩ = some (.slice (some ⟨xb, xo, none⟩) x.cl x.cc) ∧ w'.cell? ⟨y2.heap.size, 1, none⟩ = some (.slice (some ⟨tb, to', none⟩) x.cl T4) ∧ w'.cell? ⟨tb, to' + j, none⟩ = some (.int .i64 v) ∧ w'.cell? ⟨xb, xo + j, none⟩ = some (.int .i64 v) from ⟨(JXr'.out.kept hb).see.2.1, (JTr'.out.kept hb).see.2.1, cell_later hb HE1.out, cell_later hb HE2.out⟩))
      have t1 := Lib.hid (show Below wr.heap.size wr wr.drew from (Below.refl _ _).drew)
      refine wp_region_held_drew (S := fun w' => w'.cell? ⟨w.heap.size, 1, none⟩ = some (.slice (some ⟨xb, xo, none⟩) x.cl x.cc) ∧ w'.cell? ⟨y2.heap.size, 1, none⟩ = some (.slice (some ⟨tb, to', none⟩) x.cl T4) ∧ w'.cell? ⟨tb, to' + j, none⟩ = some (.int .i64 v) ∧ w'.cell? ⟨xb, xo + j, none⟩ = some (.int .i64 v)) (by kernel_rfl) (SK.out _ t1.out) (fun hHeld => ?_)
      refine held_take 0 (.int .i64 j) rfl (by kernel_rfl) (by kernel_rfl) (by kernel_rfl) (fun _ _ _ h => h) (by rfl) (by intro w' hS; go_simp) (by assumption) ?_
      try simp only [Act.put, List.setIfInBounds_toArray, List.set_cons_zero, List.set_cons_succ]
      refine held_take 1 (.pointer (some ⟨w.heap.size, 1, none⟩)) rfl (by kernel_rfl) (by kernel_rfl) (by kernel_rfl) (fun _ _ _ h => h) (by rfl) (by intro w' hS; go_simp) (by assumption) ?_
      try simp only [Act.put, List.setIfInBounds_toArray, List.set_cons_zero, List.set_cons_succ]
      refine held_take 2 (.slice (some ⟨xb, xo, none⟩) x.cl x.cc) rfl (by kernel_rfl) (by kernel_rfl) (by kernel_rfl) (fun _ _ _ h => h) (by rfl) (by intro w' hS; go_simp) (by assumption) ?_
      try simp only [Act.put, List.setIfInBounds_toArray, List.set_cons_zero, List.set_cons_succ]
      refine held_take 3 (.int .i64 x.cl) rfl (by kernel_rfl) (by kernel_rfl) (by kernel_rfl) (fun _ _ _ h => h) (by rfl) (by intro w' hS; go_simp) (by assumption) ?_
      try simp only [Act.put, List.setIfInBounds_toArray, List.set_cons_zero, List.set_cons_succ]
      refine held_take 4 (.bool false) rfl (by kernel_rfl) (by kernel_rfl) (by kernel_rfl) (fun _ _ _ h => h) (by rfl) (by intro w' hS; go_simp) (by assumption) ?_
      try simp only [Act.put, List.setIfInBounds_toArray, List.set_cons_zero, List.set_cons_succ]
      refine held_take 5 (.bool false) rfl (by kernel_rfl) (by kernel_rfl) (by kernel_rfl) (fun _ _ _ h => h) (by rfl) (by intro w' hS; go_simp) (by assumption) ?_
      try simp only [Act.put, List.setIfInBounds_toArray, List.set_cons_zero, List.set_cons_succ]
      refine held_take 6 (.pointer (some ⟨y2.heap.size, 1, none⟩)) rfl (by kernel_rfl) (by kernel_rfl) (by kernel_rfl) (fun _ _ _ h => h) (by rfl) (by intro w' hS; go_simp) (by assumption) ?_
      try simp only [Act.put, List.setIfInBounds_toArray, List.set_cons_zero, List.set_cons_succ]
      refine held_take 7 (.slice (some ⟨tb, to', none⟩) x.cl T4) rfl (by kernel_rfl) (by kernel_rfl) (by kernel_rfl) (fun _ _ _ h => h) (by rfl) (by intro w' hS; go_simp) (by assumption) ?_
      try simp only [Act.put, List.setIfInBounds_toArray, List.set_cons_zero, List.set_cons_succ]
      refine held_take 8 (.int .i64 j) rfl (by kernel_rfl) (by kernel_rfl) (by kernel_rfl) (fun _ _ _ h => h) (by rfl) (by intro w' hS; go_simp) (by assumption) ?_
      try simp only [Act.put, List.setIfInBounds_toArray, List.set_cons_zero, List.set_cons_succ]
      refine held_take 9 (.pointer (some ⟨tb, to' + j, none⟩)) rfl (by kernel_rfl) (by kernel_rfl) (by kernel_rfl) (fun _ _ _ h => h) (by rfl) (by intro w' hS; go_simp) (by assumption) ?_
      try simp only [Act.put, List.setIfInBounds_toArray, List.set_cons_zero, List.set_cons_succ]
      refine held_take 10 (.int .i64 v) rfl (by kernel_rfl) (by kernel_rfl) (by kernel_rfl) (fun _ _ _ h => h) (by rfl) (by intro w' hS; go_simp) (by assumption) ?_
      try simp only [Act.put, List.setIfInBounds_toArray, List.set_cons_zero, List.set_cons_succ]
      refine held_take 11 (.pointer (some ⟨w.heap.size, 1, none⟩)) rfl (by kernel_rfl) (by kernel_rfl) (by kernel_rfl) (fun _ _ _ h => h) (by rfl) (by intro w' hS; go_simp) (by assumption) ?_
      try simp only [Act.put, List.setIfInBounds_toArray, List.set_cons_zero, List.set_cons_succ]
      refine held_take 12 (.slice (some ⟨xb, xo, none⟩) x.cl x.cc) rfl (by kernel_rfl) (by kernel_rfl) (by kernel_rfl) (fun _ _ _ h => h) (by rfl) (by intro w' hS; go_simp) (by assumption) ?_
      try simp only [Act.put, List.setIfInBounds_toArray, List.set_cons_zero, List.set_cons_succ]
      refine held_take 13 (.int .i64 j) rfl (by kernel_rfl) (by kernel_rfl) (by kernel_rfl) (fun _ _ _ h => h) (by rfl) (by intro w' hS; go_simp) (by assumption) ?_
      try simp only [Act.put, List.setIfInBounds_toArray, List.set_cons_zero, List.set_cons_succ]
      refine held_take 14 (.pointer (some ⟨xb, xo + j, none⟩)) rfl (by kernel_rfl) (by kernel_rfl) (by kernel_rfl) (fun _ _ _ h => h) (by rfl) (by intro w' hS; go_simp) (by assumption) ?_
      try simp only [Act.put, List.setIfInBounds_toArray, List.set_cons_zero, List.set_cons_succ]
      refine held_take 15 (.int .i64 v) rfl (by kernel_rfl) (by kernel_rfl) (by kernel_rfl) (fun _ _ _ h => h) (by rfl) (by intro w' hS; go_simp) (by assumption) ?_
      try simp only [Act.put, List.setIfInBounds_toArray, List.set_cons_zero, List.set_cons_succ]
      refine held_take 16 (.bool false) rfl (by kernel_rfl) (by kernel_rfl) (by kernel_rfl) (fun _ _ _ h => h) (by rfl) (by intro w' hS; go_simp) (by assumption) ?_
      try simp only [Act.put, List.setIfInBounds_toArray, List.set_cons_zero, List.set_cons_succ]
      refine held_take 17 (.bool false) rfl (by kernel_rfl) (by kernel_rfl) (by kernel_rfl) (fun _ _ _ h => h) (by rfl) (by intro w' hS; go_simp) (by assumption) ?_
      try simp only [Act.put, List.setIfInBounds_toArray, List.set_cons_zero, List.set_cons_succ]
      refine wpAnyH_done (by kernel_rfl) ?_ _
      have b7 := Lib.hid (hbr.out.trans (t1.out.mono hbr.out.size))
      clear SK t1 HE1 HE2 JXr' JTr'
      go_wp2_with fail
      go_roundw
      case rel => exact ⟨j + 1, by omega, by go_num, b7⟩
      case measure => (simp [intOf]; try omega)
    · obtain rfl : j = x.cl := by omega
      have b7 := Lib.hid (b6.out.trans (hbr.out.mono b6.out.size))
      have JX7 := Lib.hid (JX6.out.kept hbr.out)
      have JG7 := Lib.hid (JG6.out.kept hbr.out)
      clear hbr JX6 JG6 JT6 KT6
      obtain ⟨j0, j1, -, -⟩ := JX7.out.see
      obtain ⟨k0, k1, -, -⟩ := JG7.out.see
      go_wp2_with fail
      clear j0 j1 k0 k1
      refine (T2N.out wr b7.out).mono ?_
      rintro e yb h'
      obtain ⟨V1, V2, V3, V4, rfl, GV, hb8⟩ := tres_open (n := 0) (m := 0) h' rfl rfl
      obtain ⟨w8, hw8, JV, zx, -⟩ := grid_box yb (.slice V1 0 V2) (.slice V3 0 V4)
      have q := hb8.trans (zx.out.mono hb8.size)
      have b8 := Lib.hid (b7.out.trans (q.mono b7.out.size))
      have JX8 := Lib.hid (JX7.out.kept q)
      have JG8 := Lib.hid (JG7.out.kept q)
      have KV8 := Lib.hid (GV.kept zx.out)
      clear h' GV hb8 q zx T2N JX7 JG7
      go_upto_region 17 with (fail)
      rw [hw8.out]
      obtain ⟨j0, j1, -, -⟩ := JX8.out.see
      go_wp2_with fail
      clear j0 j1
      refine (RX.out w8 b8.out).mono ?_
      rintro e w9 ⟨rfl, hb9⟩
      have b9 := Lib.hid (b8.out.trans (hb9.mono b8.out.size))
      have JX9 := Lib.hid (JX8.out.kept hb9)
      have JG9 := Lib.hid (JG8.out.kept hb9)
      have JV9 := Lib.hid (JV.out.kept hb9)
      have KV9 := Lib.hid (KV8.out.kept hb9)
      clear hb9 JX8 JG8 JV KV8
      obtain ⟨k0, k1, -, -⟩ := JG9.out.see
      go_wp2_with fail
      clear k0 k1
      refine (RG.out w9 b9.out).mono ?_
      rintro e w10 ⟨rfl, hb10⟩
      have b10 := Lib.hid (b9.out.trans (hb10.mono b9.out.size))
      replace JX9 := Lib.hid (JX9.out.kept hb10)
      replace JG9 := Lib.hid (JG9.out.kept hb10)
      replace JV9 := Lib.hid (JV9.out.kept hb10)
      replace KV9 := Lib.hid (KV9.out.kept hb10)
      clear hb10
      obtain ⟨j0, j1, -, -⟩ := JX9.out.see
      obtain ⟨k0, k1, -, -⟩ := JG9.out.see
      obtain ⟨v0, v1, -, -⟩ := JV9.out.see
      go_wp2_with fail
      clear v0 v1 j0 j1 k0 k1
      refine (awake09_any _).mono ?_
      rintro e w20 ⟨rfl, hb20⟩
      have b20 := Lib.hid (b10.out.trans (hb20.mono b10.out.size))
      clear hb20
      go_wp2_with fail
      go_ret
      exact ⟨rfl, b20.out⟩

set_option maxRecDepth 100000 in
set_option maxHeartbeats 16000000 in
theorem turns_oo (x g s : TV) (w : World) (hx : Good x w) (hg : Good g w) (hS : s.At w ∧ s.CapS) (hs : small9 [x, g] = true) (hl : s.sl ≤ 9) (q1 : rightT x.ss x.cl = true) (q2 : rightS s.ss = true) (q3 : prodI s.ss = x.cl) (q4 : rightT g.ss g.cl = true) (q5 : g.cl = x.cl) :
    Calls Try.prog 6 #[.agg #[.slice x.sa x.sl x.sc, .slice x.ca x.cl x.cc], .agg #[.slice g.sa g.sl g.sc, .slice g.ca g.cl g.cc], .slice s.sa s.sl s.sc] w fun e w' => e = .returned (.bool true) ∧ Below w.heap.size w w' := by
  have hw9 := small9_le hs
  have hxl : x.cl ≤ 1000 := by have := wtsM_mem (t := x) (ts := [x, g]) (by simp); omega
  have hgl : g.cl ≤ 1000 := by have := wtsM_mem (t := g) (ts := [x, g]) (by simp); omega
  have okx := hx.ok
  have okg := hg.ok
  rw [q1] at okx
  have lx : (pr x).2.length = x.cl := hx.len
  have lg : (pr g).2.length = g.cl := hg.len
  have RX := fun w1 (hb : Below w.heap.size w w1) => right9_any x.sa x.sl x.sc x.ss x.ca x.cl x.cc w1 (hx.kept hb).1.1 (by omega)
  rw [q1] at RX
  have TN := fun w1 (hb : Below w.heap.size w w1) => turn_any x s.sa s.sl s.sc s.ss w1 (hx.kept hb) (hS.1.kept hb).1 hxl
  have T2N := fun w1 (hb : Below w.heap.size w w1) => tback_any x g w1 (hx.kept hb) (hg.kept hb) hgl
  have HX := Lib.hid (fun w1 (hb : Below w.heap.size w w1) => hx.kept hb)
  have HG := Lib.hid (fun w1 (hb : Below w.heap.size w w1) => hg.kept hb)
  have HS := Lib.hid (fun w1 (hb : Below w.heap.size w w1) => (hS.1.kept hb).1)
  have HSL := Lib.hid hS.1.1.1
  have HCL := Lib.hid hx.len
  have HXS := Lib.hid hx.slen
  have HGC := Lib.hid hg.len
  have d9 : ¬ (9 : Int) < (s.sl : Int) := by omega
  have RS := fun w1 (hb : Below w.heap.size w w1) => (refshape_any s.sa s.sl s.sc s.ss w1 (hS.1.kept hb).1).mono (fun _ w' (h : _ ∧ w1 = w') => (⟨h.1, h.2 ▸ Below.refl _ _⟩ : _ ∧ Below w1.heap.size w1 w'))
  rw [q2] at RS
  have SZ := fun w1 (hb : Below w.heap.size w w1) => (refsize_any s.sa s.sl s.sc s.ss w1 (hS.1.kept hb).1 q2).mono (fun _ w' (h : _ ∧ w1 = w') => (⟨h.1, h.2 ▸ Below.refl _ _⟩ : _ ∧ Below w1.heap.size w1 w'))
  have dq : ((x.cl : Int) != (x.cl : Int)) = false := by simp
  have rt : rightT s.ss x.cl = true := (rightT_yes q2 (by omega)).symm
  simp only [turn_o (s := s.ss) okx (by rw [lx]; exact rt)] at TN
  have HTB : Hid (tbackR (pr x) (s.ss, x.cs) = (0, (x.ss, x.cs))) := Lib.hid (by rw [tback_t okx]; exact turn_o (by show rightT s.ss x.cs.length = true; rw [hx.len]; exact rt) (by show rightT x.ss x.cs.length = true; rw [hx.len]; exact q1))
  rw [q4] at okg
  have RG := fun w1 (hb : Below w.heap.size w w1) => right9_any g.sa g.sl g.sc g.ss g.ca g.cl g.cc w1 (hg.kept hb).1.1 (by omega)
  rw [q4] at RG
  replace RG := Lib.hid RG
  simp only [tback_t okx, turn_o (s := (pr x).1) okg (by rw [lg, q5]; exact q1)] at T2N
  replace T2N : ∀ w1, Below w.heap.size w w1 → Calls _ _ _ w1 (TRes w1 (0, (x.ss, g.cs))) := T2N
  have dg : ((x.cl : Int) != (g.cl : Int)) = false := by rw [q5]; simp
  rw [q3] at SZ
  replace TN : ∀ w1, Below w.heap.size w w1 → Calls _ _ _ w1 (TRes w1 (0, (s.ss, x.cs))) := TN
  replace RX := Lib.hid RX
  replace TN := Lib.hid TN
  replace T2N := Lib.hid T2N
  replace RS := Lib.hid RS
  replace SZ := Lib.hid SZ
  obtain ⟨wA, hwA, J1, z1, n1⟩ := grid_box w (.slice x.sa x.sl x.sc) (.slice x.ca x.cl x.cc)
  obtain ⟨wB, hwB, J2, z2, n2⟩ := grid_box wA (.slice g.sa g.sl g.sc) (.slice g.ca g.cl g.cc)
  rw [n1.out] at J2
  have z := Lib.hid (z1.out.trans (z2.out.mono z1.out.size))
  have J := Lib.hid (J1.out.kept z2.out)
  obtain ⟨r1, hr1, gs1, zr1⟩ := gsl_made2 wB x g (hx.kept z.out) (hg.kept z.out)
  have SM := small9_any _ 2 2 _ r1 gs1.out.at_
  rw [hs] at SM
  have SM1 := Lib.hid SM
  clear SM hs hx hg hS hl hw9 okx okg lx lg q1 q2 q3 q4 q5 rt
  obtain ⟨j0, j1, -, -⟩ := J.out.see
  obtain ⟨k0, k1, -, -⟩ := J2.out.see
  have hr1' := hr1.out
  go_enter Try.func6, Try.ntmps6
  go_upto_region 1 with (fail)
  rw [hwA.out, hwB.out]
  go_wp2_with fail
  clear hr1' j0 j1 k0 k1
  refine SM1.out.mono ?_
  rintro e w1 ⟨rfl, hb1⟩
  have q1 := zr1.out.trans (hb1.mono zr1.out.size)
  have b1 := Lib.hid (z.out.trans (q1.mono z.out.size))
  have JX := Lib.hid (J.out.kept q1)
  have JG := Lib.hid (J2.out.kept q1)
  clear hb1 q1 SM1 J1 J J2 gs1 zr1 hr1
  obtain ⟨j0, j1, -, -⟩ := JX.out.see
  go_wp2_with fail
  clear j0 j1
  refine (TN.out w1 b1.out).mono ?_
  rintro e y2 h'
  obtain ⟨T1, T2, T3, T4, rfl, GT, hb2⟩ := tres_open (n := s.sl) (m := x.cl) h' HSL.out HCL.out
  obtain ⟨w2, hw2, JT, zx, -⟩ := grid_box y2 (.slice T1 s.sl T2) (.slice T3 x.cl T4)
  have q := hb2.trans (zx.out.mono hb2.size)
  have b2 := Lib.hid (b1.out.trans (q.mono b1.out.size))
  replace JX := Lib.hid (JX.out.kept q)
  replace JG := Lib.hid (JG.out.kept q)
  have KT := Lib.hid (GT.kept zx.out)
  clear h' GT hb2 q zx TN
  go_upto_region 4 with (fail)
  rw [hw2.out]
  have SK := Lib.hid (fun w' (hb : Below w2.heap.size w2 w') => (show w'.cell? ⟨w.heap.size, 0, none⟩ = some (.slice x.sa x.sl x.sc) ∧ w'.cell? ⟨w.heap.size, 1, none⟩ = some (.slice x.ca x.cl x.cc) from ⟨(JX.out.kept hb).see.1, (JX.out.kept hb).see.2.1⟩))
  have t1 := Lib.hid (show Below w2.heap.size w2 w2.drew from (Below.refl _ _).drew)
  refine wp_region_held_drew (S := fun w' => w'.cell? ⟨w.heap.size, 0, none⟩ = some (.slice x.sa x.sl x.sc) ∧ w'.cell? ⟨w.heap.size, 1, none⟩ = some (.slice x.ca x.cl x.cc)) (by kernel_rfl) (SK.out _ t1.out) (fun hHeld => ?_)
  refine held_take 0 (.agg #[.slice x.sa x.sl x.sc, .slice x.ca x.cl x.cc]) rfl (by kernel_rfl) (by kernel_rfl) (by kernel_rfl) (fun _ _ _ h => h) (by rfl) (by intro w' hS; go_simp) (by assumption) ?_
  try simp only [Act.put, List.setIfInBounds_toArray, List.set_cons_zero, List.set_cons_succ]
  refine held_call 1 (by kernel_rfl) rfl (by rfl) (fun K hK => ?_)
  go_simp
  refine (RX.out w2.drew (b2.out.trans (t1.out.mono b2.out.size))).mono ?_
  rintro e wq1 ⟨rfl, hb⟩
  have bq1 := Lib.hid (t1.out.trans ((hb).mono t1.out.size))
  go_wp2_with fail
  refine hK.out _ _ (SK.out _ bq1.out) (fun hHeld => ?_)
  try simp only [Act.put, List.setIfInBounds_toArray, List.set_cons_zero, List.set_cons_succ]
  refine held_take 2 (.bool false) rfl (by kernel_rfl) (by kernel_rfl) (by kernel_rfl) (fun _ _ _ h => h) (by rfl) (by intro w' hS; go_simp) (by assumption) ?_
  try simp only [Act.put, List.setIfInBounds_toArray, List.set_cons_zero, List.set_cons_succ]
  refine held_take 3 (.bool false) rfl (by kernel_rfl) (by kernel_rfl) (by kernel_rfl) (fun _ _ _ h => h) (by rfl) (by intro w' hS; go_simp) (by assumption) ?_
  try simp only [Act.put, List.setIfInBounds_toArray, List.set_cons_zero, List.set_cons_succ]
  refine held_take 4 (.slice s.sa s.sl s.sc) rfl (by kernel_rfl) (by kernel_rfl) (by kernel_rfl) (fun _ _ _ h => h) (by rfl) (by intro w' hS; go_simp) (by assumption) ?_
  try simp only [Act.put, List.setIfInBounds_toArray, List.set_cons_zero, List.set_cons_succ]
  refine held_call 5 (by kernel_rfl) rfl (by rfl) (fun K hK => ?_)
  go_simp
  refine (RS.out wq1 (b2.out.trans (bq1.out.mono b2.out.size))).mono ?_
  rintro e wq2 ⟨rfl, hb⟩
  have bq2 := Lib.hid (bq1.out.trans ((hb).mono bq1.out.size))
  go_wp2_with fail
  refine hK.out _ _ (SK.out _ bq2.out) (fun hHeld => ?_)
  try simp only [Act.put, List.setIfInBounds_toArray, List.set_cons_zero, List.set_cons_succ]
  refine held_take 6 (.bool false) rfl (by kernel_rfl) (by kernel_rfl) (by kernel_rfl) (fun _ _ _ h => h) (by rfl) (by intro w' hS; go_simp) (by assumption) ?_
  try simp only [Act.put, List.setIfInBounds_toArray, List.set_cons_zero, List.set_cons_succ]
  refine held_take 7 (.bool false) rfl (by kernel_rfl) (by kernel_rfl) (by kernel_rfl) (fun _ _ _ h => h) (by rfl) (by intro w' hS; go_simp) (by assumption) ?_
  try simp only [Act.put, List.setIfInBounds_toArray, List.set_cons_zero, List.set_cons_succ]
  refine held_take 8 (.bool false) rfl (by kernel_rfl) (by kernel_rfl) (by kernel_rfl) (fun _ _ _ h => h) (by rfl) (by intro w' hS; go_simp) (by assumption) ?_
  try simp only [Act.put, List.setIfInBounds_toArray, List.set_cons_zero, List.set_cons_succ]
  refine held_take 9 (.slice s.sa s.sl s.sc) rfl (by kernel_rfl) (by kernel_rfl) (by kernel_rfl) (fun _ _ _ h => h) (by rfl) (by intro w' hS; go_simp) (by assumption) ?_
  try simp only [Act.put, List.setIfInBounds_toArray, List.set_cons_zero, List.set_cons_succ]
  refine held_take 11 (.pointer (some ⟨w.heap.size, 1, none⟩)) rfl (by kernel_rfl) (by kernel_rfl) (by kernel_rfl) (fun _ _ _ h => h) (by rfl) (by intro w' hS; go_simp) (by assumption) ?_
  try simp only [Act.put, List.setIfInBounds_toArray, List.set_cons_zero, List.set_cons_succ]
  refine held_take 12 (.slice x.ca x.cl x.cc) rfl (by kernel_rfl) (by kernel_rfl) (by kernel_rfl) (fun _ _ _ h => h) (by rfl) (by intro w' hS; go_simp) (by assumption) ?_
  try simp only [Act.put, List.setIfInBounds_toArray, List.set_cons_zero, List.set_cons_succ]
  refine held_take 13 (.int .i64 x.cl) rfl (by kernel_rfl) (by kernel_rfl) (by kernel_rfl) (fun _ _ _ h => h) (by rfl) (by intro w' hS; go_simp) (by assumption) ?_
  try simp only [Act.put, List.setIfInBounds_toArray, List.set_cons_zero, List.set_cons_succ]
  refine held_call 10 (by kernel_rfl) rfl (by rfl) (fun K hK => ?_)
  go_simp
  refine (SZ.out wq2 (b2.out.trans (bq2.out.mono b2.out.size))).mono ?_
  rintro e wq3 ⟨rfl, hb⟩
  have bq3 := Lib.hid (bq2.out.trans ((hb).mono bq2.out.size))
  go_wp2_with fail
  refine hK.out _ _ (SK.out _ bq3.out) (fun hHeld => ?_)
  try simp only [Act.put, List.setIfInBounds_toArray, List.set_cons_zero, List.set_cons_succ]
  refine held_take 14 (.bool false) rfl (by kernel_rfl) (by kernel_rfl) (by kernel_rfl) (fun _ _ _ h => h) (by rfl) (by intro w' hS; go_simp) (by assumption) ?_
  try simp only [Act.put, List.setIfInBounds_toArray, List.set_cons_zero, List.set_cons_succ]
  refine held_take 15 (.bool false) rfl (by kernel_rfl) (by kernel_rfl) (by kernel_rfl) (fun _ _ _ h => h) (by rfl) (by intro w' hS; go_simp) (by assumption) ?_
  try simp only [Act.put, List.setIfInBounds_toArray, List.set_cons_zero, List.set_cons_succ]
  refine wpAnyH_done (by kernel_rfl) ?_ _
  have b3 := Lib.hid (b2.out.trans (bq3.out.mono b2.out.size))
  have JX3 := Lib.hid (JX.out.kept bq3.out)
  have JG3 := Lib.hid (JG.out.kept bq3.out)
  have JT3 := Lib.hid (JT.out.kept bq3.out)
  have KT3 := Lib.hid (KT.out.kept bq3.out)
  clear JX JG JT KT SK
  obtain ⟨t0, t1', -, -⟩ := JT3.out.see
  obtain ⟨j0, j1, -, -⟩ := JX3.out.see
  go_wp2_with fail
  clear j0 j1 t0 t1'
  have TB := tback_any x ⟨T1, s.sl, T2, s.ss, T3, x.cl, T4, x.cs⟩ wq3 (HX.out _ b3.out) KT3.out hxl
  rw [show pr ⟨T1, s.sl, T2, s.ss, T3, x.cl, T4, x.cs⟩ = (s.ss, x.cs) from rfl, HTB.out] at TB
  refine TB.mono ?_
  rintro e y4 h'
  obtain ⟨U1, U2, U3, U4, rfl, GU, hb4⟩ := tres_open (n := x.sl) (m := x.cl) h' HXS.out HCL.out
  obtain ⟨w4, hw4, JU, zx, -⟩ := grid_box y4 (.slice U1 x.sl U2) (.slice U3 x.cl U4)
  have q := hb4.trans (zx.out.mono hb4.size)
  have b4 := Lib.hid (b3.out.trans (q.mono b3.out.size))
  have JX4 := Lib.hid (JX3.out.kept q)
  have JG4 := Lib.hid (JG3.out.kept q)
  have JT4 := Lib.hid (JT3.out.kept q)
  have KT4 := Lib.hid (KT3.out.kept q)
  have KU4 := Lib.hid (GU.kept zx.out)
  clear h' GU hb4 q zx TB JX3 JG3 JT3 KT3
  go_upto_region 8 with (fail)
  rw [hw4.out]
  obtain ⟨t0, t1', -, -⟩ := JT4.out.see
  go_wp2_with fail
  have SE := same_any T1 s.sl T2 s.ss s.sa s.sl s.sc s.ss w4 KT4.out.1.1 (HS.out w4 b4.out)
  rw [sameL_self] at SE
  refine SE.mono ?_
  rintro e w5 ⟨rfl, nq, rfl⟩
  have q := below_drewN' (Below.refl w4.heap.size w4) nq
  have b5 := Lib.hid (b4.out.trans (q.mono b4.out.size))
  have JX5 := Lib.hid (JX4.out.kept q)
  have JG5 := Lib.hid (JG4.out.kept q)
  have JT5 := Lib.hid (JT4.out.kept q)
  have JU5 := Lib.hid (JU.out.kept q)
  have KT5 := Lib.hid (KT4.out.kept q)
  have KU5 := Lib.hid (KU4.out.kept q)
  obtain ⟨w5, hw5⟩ : ∃ w5, w4.drewN nq = w5 := ⟨_, rfl⟩
  rw [hw5] at b5 JX5 JG5 JT5 JU5 KT5 KU5 ⊢
  clear q SE JX4 JG4 JT4 JU KT4 KU4 t0 t1' hw5
  obtain ⟨u0, u1, -, -⟩ := JU5.out.see
  obtain ⟨j0, j1, -, -⟩ := JX5.out.see
  go_wp2_with fail
  have EQ := tequal_any U1 x.sl U2 x.ss U3 x.cl U4 x.cs x.sa x.sl x.sc x.ss x.ca x.cl x.cc x.cs w5 KU5.out.1.1 KU5.out.1.2.1 (HX.out w5 b5.out).1.1 (HX.out w5 b5.out).1.2.1
  rw [show sameT x.ss x.cs x.ss x.cs = true by unfold sameT; rw [sameL_self, sameL_self]; rfl] at EQ
  refine EQ.mono ?_
  rintro e w6 ⟨rfl, hb6⟩
  have b6 := Lib.hid (b5.out.trans (hb6.mono b5.out.size))
  have JX6 := Lib.hid (JX5.out.kept hb6)
  have JG6 := Lib.hid (JG5.out.kept hb6)
  have JT6 := Lib.hid (JT5.out.kept hb6)
  have KT6 := Lib.hid (KT5.out.kept hb6)
  clear EQ JX5 JG5 JT5 JU5 KT5 KU5 u0 u1 j0 j1 hb6
  obtain ⟨t0, t1', -, -⟩ := JT6.out.see
  go_wp2_with fail
  clear t0 t1'
  go_loopw [83] (fun i wr => ∃ j : Nat, j ≤ x.cl ∧ i = .int .i64 j ∧ Hid (Below w6.heap.size w6 wr)) (fun i _ => x.cl - (intOf i).toNat)
  case atStart => exact ⟨0, Nat.zero_le _, rfl, Lib.hid (Below.refl _ _)⟩
  case round =>
    obtain ⟨j, hj, rfl, hbr⟩ := hrel
    by_cases hlt : j < x.cl
    · obtain ⟨tb, to', hta, htc⟩ := ints_cell (KT6.out.kept hbr.out).1.2.1 (by show 0 < x.cl; omega)
      obtain ⟨xb, xo, hxa, hxc⟩ := ints_cell ((HX.out w6 b6.out).kept hbr.out).1.2.1 (by omega)
      have e1 := htc j hlt
      have e2 := hxc j hlt
      obtain ⟨v, hv⟩ : ∃ v, x.cs.getD j 0 = v := ⟨_, rfl⟩
      replace e1 : wr.cell? ⟨tb, to' + j, none⟩ = some (.int .i64 v) := by rw [← hv]; exact e1
      rw [hv] at e2
      have JXr := JX6.out.kept hbr.out
      have JTr := JT6.out.kept hbr.out
      have hta' : T3 = some ⟨tb, to', none⟩ := hta
      rw [hta'] at JTr
      rw [hxa] at JXr
      have HE1 := Lib.hid e1
      have HE2 := Lib.hid e2
      have JXr' := Lib.hid JXr
      have JTr' := Lib.hid JTr
      clear e1 e2 JXr JTr hta hta' hxa htc hxc hv 
      go_wp2_with fail
      have SK := Lib.hid (fun w' (hb : Below wr.heap.size wr w') => (show w'.cell? ⟨w.heap.size, 1, none⟩ = some (.slice (some ⟨xb, xo, none⟩) x.cl x.cc) ∧ w'.cell? ⟨y2.heap.size, 1, none⟩ = some (.slice (some ⟨tb, to', none⟩) x.cl T4) ∧ w'.cell? ⟨tb, to' + j, none⟩ = some (.int .i64 v) ∧ w'.cell? ⟨xb, xo + j, none⟩ = some (.int .i64 v) from ⟨(JXr'.out.kept hb).see.2.1, (JTr'.out.kept hb).see.2.1, cell_later hb HE1.out, cell_later hb HE2.out⟩))
      have t1 := Lib.hid (show Below wr.heap.size wr wr.drew from (Below.refl _ _).drew)
      refine wp_region_held_drew (S := fun w' => w'.cell? ⟨w.heap.size, 1, none⟩ = some (.slice (some ⟨xb, xo, none⟩) x.cl x.cc) ∧ w'.cell? ⟨y2.heap.size, 1, none⟩ = some (.slice (some ⟨tb, to', none⟩) x.cl T4) ∧ w'.cell? ⟨tb, to' + j, none⟩ = some (.int .i64 v) ∧ w'.cell? ⟨xb, xo + j, none⟩ = some (.int .i64 v)) (by kernel_rfl) (SK.out _ t1.out) (fun hHeld => ?_)
      refine held_take 0 (.int .i64 j) rfl (by kernel_rfl) (by kernel_rfl) (by kernel_rfl) (fun _ _ _ h => h) (by rfl) (by intro w' hS; go_simp) (by assumption) ?_
      try simp only [Act.put, List.setIfInBounds_toArray, List.set_cons_zero, List.set_cons_succ]
      refine held_take 1 (.pointer (some ⟨w.heap.size, 1, none⟩)) rfl (by kernel_rfl) (by kernel_rfl) (by kernel_rfl) (fun _ _ _ h => h) (by rfl) (by intro w' hS; go_simp) (by assumption) ?_
      try simp only [Act.put, List.setIfInBounds_toArray, List.set_cons_zero, List.set_cons_succ]
      refine held_take 2 (.slice (some ⟨xb, xo, none⟩) x.cl x.cc) rfl (by kernel_rfl) (by kernel_rfl) (by kernel_rfl) (fun _ _ _ h => h) (by rfl) (by intro w' hS; go_simp) (by assumption) ?_
      try simp only [Act.put, List.setIfInBounds_toArray, List.set_cons_zero, List.set_cons_succ]
      refine held_take 3 (.int .i64 x.cl) rfl (by kernel_rfl) (by kernel_rfl) (by kernel_rfl) (fun _ _ _ h => h) (by rfl) (by intro w' hS; go_simp) (by assumption) ?_
      try simp only [Act.put, List.setIfInBounds_toArray, List.set_cons_zero, List.set_cons_succ]
      refine held_take 4 (.bool false) rfl (by kernel_rfl) (by kernel_rfl) (by kernel_rfl) (fun _ _ _ h => h) (by rfl) (by intro w' hS; go_simp) (by assumption) ?_
      try simp only [Act.put, List.setIfInBounds_toArray, List.set_cons_zero, List.set_cons_succ]
      refine held_take 5 (.bool false) rfl (by kernel_rfl) (by kernel_rfl) (by kernel_rfl) (fun _ _ _ h => h) (by rfl) (by intro w' hS; go_simp) (by assumption) ?_
      try simp only [Act.put, List.setIfInBounds_toArray, List.set_cons_zero, List.set_cons_succ]
      refine held_take 6 (.pointer (some ⟨y2.heap.size, 1, none⟩)) rfl (by kernel_rfl) (by kernel_rfl) (by kernel_rfl) (fun _ _ _ h => h) (by rfl) (by intro w' hS; go_simp) (by assumption) ?_
      try simp only [Act.put, List.setIfInBounds_toArray, List.set_cons_zero, List.set_cons_succ]
      refine held_take 7 (.slice (some ⟨tb, to', none⟩) x.cl T4) rfl (by kernel_rfl) (by kernel_rfl) (by kernel_rfl) (fun _ _ _ h => h) (by rfl) (by intro w' hS; go_simp) (by assumption) ?_
      try simp only [Act.put, List.setIfInBounds_toArray, List.set_cons_zero, List.set_cons_succ]
      refine held_take 8 (.int .i64 j) rfl (by kernel_rfl) (by kernel_rfl) (by kernel_rfl) (fun _ _ _ h => h) (by rfl) (by intro w' hS; go_simp) (by assumption) ?_
      try simp only [Act.put, List.setIfInBounds_toArray, List.set_cons_zero, List.set_cons_succ]
      refine held_take 9 (.pointer (some ⟨tb, to' + j, none⟩)) rfl (by kernel_rfl) (by kernel_rfl) (by kernel_rfl) (fun _ _ _ h => h) (by rfl) (by intro w' hS; go_simp) (by assumption) ?_
      try simp only [Act.put, List.setIfInBounds_toArray, List.set_cons_zero, List.set_cons_succ]
      refine held_take 10 (.int .i64 v) rfl (by kernel_rfl) (by kernel_rfl) (by kernel_rfl) (fun _ _ _ h => h) (by rfl) (by intro w' hS; go_simp) (by assumption) ?_
      try simp only [Act.put, List.setIfInBounds_toArray, List.set_cons_zero, List.set_cons_succ]
      refine held_take 11 (.pointer (some ⟨w.heap.size, 1, none⟩)) rfl (by kernel_rfl) (by kernel_rfl) (by kernel_rfl) (fun _ _ _ h => h) (by rfl) (by intro w' hS; go_simp) (by assumption) ?_
      try simp only [Act.put, List.setIfInBounds_toArray, List.set_cons_zero, List.set_cons_succ]
      refine held_take 12 (.slice (some ⟨xb, xo, none⟩) x.cl x.cc) rfl (by kernel_rfl) (by kernel_rfl) (by kernel_rfl) (fun _ _ _ h => h) (by rfl) (by intro w' hS; go_simp) (by assumption) ?_
      try simp only [Act.put, List.setIfInBounds_toArray, List.set_cons_zero, List.set_cons_succ]
      refine held_take 13 (.int .i64 j) rfl (by kernel_rfl) (by kernel_rfl) (by kernel_rfl) (fun _ _ _ h => h) (by rfl) (by intro w' hS; go_simp) (by assumption) ?_
      try simp only [Act.put, List.setIfInBounds_toArray, List.set_cons_zero, List.set_cons_succ]
      refine held_take 14 (.pointer (some ⟨xb, xo + j, none⟩)) rfl (by kernel_rfl) (by kernel_rfl) (by kernel_rfl) (fun _ _ _ h => h) (by rfl) (by intro w' hS; go_simp) (by assumption) ?_
      try simp only [Act.put, List.setIfInBounds_toArray, List.set_cons_zero, List.set_cons_succ]
      refine held_take 15 (.int .i64 v) rfl (by kernel_rfl) (by kernel_rfl) (by kernel_rfl) (fun _ _ _ h => h) (by rfl) (by intro w' hS; go_simp) (by assumption) ?_
      try simp only [Act.put, List.setIfInBounds_toArray, List.set_cons_zero, List.set_cons_succ]
      refine held_take 16 (.bool false) rfl (by kernel_rfl) (by kernel_rfl) (by kernel_rfl) (fun _ _ _ h => h) (by rfl) (by intro w' hS; go_simp) (by assumption) ?_
      try simp only [Act.put, List.setIfInBounds_toArray, List.set_cons_zero, List.set_cons_succ]
      refine held_take 17 (.bool false) rfl (by kernel_rfl) (by kernel_rfl) (by kernel_rfl) (fun _ _ _ h => h) (by rfl) (by intro w' hS; go_simp) (by assumption) ?_
      try simp only [Act.put, List.setIfInBounds_toArray, List.set_cons_zero, List.set_cons_succ]
      refine wpAnyH_done (by kernel_rfl) ?_ _
      have b7 := Lib.hid (hbr.out.trans (t1.out.mono hbr.out.size))
      clear SK t1 HE1 HE2 JXr' JTr'
      go_wp2_with fail
      go_roundw
      case rel => exact ⟨j + 1, by omega, by go_num, b7⟩
      case measure => (simp [intOf]; try omega)
    · obtain rfl : j = x.cl := by omega
      have b7 := Lib.hid (b6.out.trans (hbr.out.mono b6.out.size))
      have JX7 := Lib.hid (JX6.out.kept hbr.out)
      have JG7 := Lib.hid (JG6.out.kept hbr.out)
      clear hbr JX6 JG6 JT6 KT6
      obtain ⟨j0, j1, -, -⟩ := JX7.out.see
      obtain ⟨k0, k1, -, -⟩ := JG7.out.see
      go_wp2_with fail
      clear j0 j1 k0 k1
      refine (T2N.out wr b7.out).mono ?_
      rintro e yb h'
      obtain ⟨V1, V2, V3, V4, rfl, GV, hb8⟩ := tres_open (n := x.sl) (m := g.cl) h' HXS.out HGC.out
      obtain ⟨w8, hw8, JV, zx, -⟩ := grid_box yb (.slice V1 x.sl V2) (.slice V3 g.cl V4)
      have q := hb8.trans (zx.out.mono hb8.size)
      have b8 := Lib.hid (b7.out.trans (q.mono b7.out.size))
      have JX8 := Lib.hid (JX7.out.kept q)
      have JG8 := Lib.hid (JG7.out.kept q)
      have KV8 := Lib.hid (GV.kept zx.out)
      clear h' GV hb8 q zx T2N JX7 JG7
      go_upto_region 17 with (fail)
      rw [hw8.out]
      obtain ⟨j0, j1, -, -⟩ := JX8.out.see
      go_wp2_with fail
      clear j0 j1
      refine (RX.out w8 b8.out).mono ?_
      rintro e w9 ⟨rfl, hb9⟩
      have b9 := Lib.hid (b8.out.trans (hb9.mono b8.out.size))
      have JX9 := Lib.hid (JX8.out.kept hb9)
      have JG9 := Lib.hid (JG8.out.kept hb9)
      have JV9 := Lib.hid (JV.out.kept hb9)
      have KV9 := Lib.hid (KV8.out.kept hb9)
      clear hb9 JX8 JG8 JV KV8
      obtain ⟨k0, k1, -, -⟩ := JG9.out.see
      go_wp2_with fail
      clear k0 k1
      refine (RG.out w9 b9.out).mono ?_
      rintro e w10 ⟨rfl, hb10⟩
      have b10 := Lib.hid (b9.out.trans (hb10.mono b9.out.size))
      replace JX9 := Lib.hid (JX9.out.kept hb10)
      replace JG9 := Lib.hid (JG9.out.kept hb10)
      replace JV9 := Lib.hid (JV9.out.kept hb10)
      replace KV9 := Lib.hid (KV9.out.kept hb10)
      clear hb10
      obtain ⟨j0, j1, -, -⟩ := JX9.out.see
      obtain ⟨k0, k1, -, -⟩ := JG9.out.see
      obtain ⟨v0, v1, -, -⟩ := JV9.out.see
      go_wp2_with fail
      clear v0 v1 j0 j1 k0 k1
      have EQ := tequal_any V1 x.sl V2 x.ss V3 g.cl V4 g.cs x.sa x.sl x.sc x.ss g.ca g.cl g.cc g.cs w10 KV9.out.1.1 KV9.out.1.2.1 (HX.out w10 b10.out).1.1 (HG.out w10 b10.out).1.2.1
      rw [show sameT x.ss g.cs x.ss g.cs = true by unfold sameT; rw [sameL_self, sameL_self]; rfl] at EQ
      refine EQ.mono ?_
      rintro e w11 ⟨rfl, hb11⟩
      have b11 := Lib.hid (b10.out.trans (hb11.mono b10.out.size))
      clear hb11 EQ
      go_wp2_with fail
      refine (awake09_any _).mono ?_
      rintro e w20 ⟨rfl, hb20⟩
      have b20 := Lib.hid (b11.out.trans (hb20.mono b11.out.size))
      clear hb20
      go_wp2_with fail
      go_ret
      exact ⟨rfl, b20.out⟩

theorem moveTurns_walk (x g s : TV) (w : World) (hx : Good x w) (hg : Good g w) (hS : s.At w ∧ s.CapS) :
    Calls Try.prog 6 #[.agg #[.slice x.sa x.sl x.sc, .slice x.ca x.cl x.cc], .agg #[.slice g.sa g.sl g.sc, .slice g.ca g.cl g.cc], .slice s.sa s.sl s.sc] w fun e w' => e = .returned (.bool true) ∧ Below w.heap.size w w' := by
  cases hs : small9 [x, g]
  · exact turns_big x g s w hx hg hs
  by_cases hl : s.sl ≤ 9
  case neg => exact turns_long x g s w hx hg hs (by omega)
  cases q1 : rightT x.ss x.cl
  · exact turns_aa x g s w hx hg hS hs hl q1
  cases q2 : rightS s.ss
  · cases q4 : rightT g.ss g.cl
    · exact turns_bb x g s w hx hg hS hs hl q1 q2 q4
    by_cases q5 : g.cl = x.cl
    · exact turns_bo x g s w hx hg hS hs hl q1 q2 q4 q5
    · exact turns_bc x g s w hx hg hS hs hl q1 q2 q4 q5
  by_cases q3 : prodI s.ss = x.cl
  · cases q4 : rightT g.ss g.cl
    · exact turns_ob x g s w hx hg hS hs hl q1 q2 q3 q4
    by_cases q5 : g.cl = x.cl
    · exact turns_oo x g s w hx hg hS hs hl q1 q2 q3 q4 q5
    · exact turns_oc x g s w hx hg hS hs hl q1 q2 q3 q4 q5
  · cases q4 : rightT g.ss g.cl
    · exact turns_cb x g s w hx hg hS hs hl q1 q2 q3 q4
    by_cases q5 : g.cl = x.cl
    · exact turns_co x g s w hx hg hS hs hl q1 q2 q3 q4 q5
    · exact turns_cc x g s w hx hg hS hs hl q1 q2 q3 q4 q5
end Go.Proofs.Ytieegaojcjhfdaa

