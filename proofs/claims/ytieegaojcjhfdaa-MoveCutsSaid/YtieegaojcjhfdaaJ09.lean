import Derived.Test.YtieegaojcjhfdaaJ05
import Derived.Test.YtieegaojcjhfdaaJ06
import Derived.Test.YtieegaojcjhfdaaJ08
/-
  The walk of the statement MoveCuts.
-/
namespace Go.Proofs.Ytieegaojcjhfdaa
open Go.RowKit
set_option linter.unusedVariables false
set_option linter.unusedSimpArgs false

set_option maxRecDepth 100000 in
set_option maxHeartbeats 4000000 in
theorem mcuts_big (x g : TV) (sd fr tt : Int) (w : World) (hx : Good x w) (hg : Good g w) (hs : small9 [x, g] = false) :
    Calls Try.prog 5 #[.agg #[.slice x.sa x.sl x.sc, .slice x.ca x.cl x.cc, .slice g.sa g.sl g.sc, .slice g.ca g.cl g.cc, .int .i64 sd, .int .i64 fr, .int .i64 tt]] w fun e w' => e = .returned (.bool true) ∧ Below w.heap.size w w' := by
  obtain ⟨wA, hwA, J, z, n1⟩ := part9_box w (.slice x.sa x.sl x.sc) (.slice x.ca x.cl x.cc) (.slice g.sa g.sl g.sc) (.slice g.ca g.cl g.cc) (.int .i64 sd) (.int .i64 fr) (.int .i64 tt)
  obtain ⟨r1, hr1, gs1, zr1⟩ := gsl_made2 wA x g (hx.kept z.out) (hg.kept z.out)
  have SM := small9_any _ 2 2 _ r1 gs1.out.at_
  rw [hs] at SM
  have SM1 := Lib.hid SM
  clear SM hs hx hg
  obtain ⟨j0, j1, j2, j3, j4, j5, j6⟩ := J.out.see
  have hr1' := hr1.out
  go_enter Try.func5, Try.ntmps5
  go_upto_region 1 with (fail)
  rw [hwA.out]
  go_wp2_with fail
  clear hr1' j0 j1 j2 j3 j4 j5 j6
  refine SM1.out.mono ?_
  rintro e w1 ⟨rfl, hb1⟩
  have q := zr1.out.trans (hb1.mono zr1.out.size)
  have b1 := Lib.hid (z.out.trans (q.mono z.out.size))
  have JP1 := Lib.hid (J.out.kept q)
  clear hb1 q SM1 J z gs1 zr1 hr1
  go_wp2_with fail
  refine (awake09_any _).mono ?_
  rintro e w20 ⟨rfl, hb20⟩
  have b20 := Lib.hid (b1.out.trans (hb20.mono b1.out.size))
  clear hb20
  go_wp2_with fail
  go_ret
  exact ⟨rfl, b20.out⟩

set_option maxRecDepth 100000 in
set_option maxHeartbeats 8000000 in
theorem mcuts_err (x g : TV) (sd fr tt : Int) (w : World) (hx : Good x w) (hg : Good g w) (hs : small9 [x, g] = true) (hE : (cutR (pr x) sd fr tt).1 ≠ 0) :
    Calls Try.prog 5 #[.agg #[.slice x.sa x.sl x.sc, .slice x.ca x.cl x.cc, .slice g.sa g.sl g.sc, .slice g.ca g.cl g.cc, .int .i64 sd, .int .i64 fr, .int .i64 tt]] w fun e w' => e = .returned (.bool true) ∧ Below w.heap.size w w' := by
  have hw9 := small9_le hs
  have hxl : x.cl ≤ 1000 := by have := wtsM_mem (t := x) (ts := [x, g]) (by simp); omega
  have hgl : g.cl ≤ 1000 := by have := wtsM_mem (t := g) (ts := [x, g]) (by simp); omega
  have MC := fun w1 (hb : Below w.heap.size w w1) => mcut_any x sd fr tt w1 (hx.kept hb) (by omega)
  have TC := fun w1 (hb : Below w.heap.size w w1) => tcut_any x sd fr tt w1 (hx.kept hb) (by omega)
  have CB := fun w1 (hb : Below w.heap.size w w1) => cback_any x g sd fr tt w1 (hx.kept hb) (hg.kept hb) hxl
  have eC := cutR_nil hE
  have eB : cbackR (pr x) (pr g) sd fr tt = ((cutR (pr x) sd fr tt).1, nilP) := by unfold cbackR; rw [if_pos hE]
  rw [eB] at CB
  obtain ⟨x1, hx1⟩ : ∃ x1, (cutR (pr x) sd fr tt).1 = x1 := ⟨_, rfl⟩
  rw [hx1] at CB eC hE
  rw [eC] at MC TC
  have dx : (x1 != 0) = true := bne_iff_ne.2 hE
  replace MC := Lib.hid MC
  replace TC := Lib.hid TC
  replace CB := Lib.hid CB
  obtain ⟨wA, hwA, J, z, n1⟩ := part9_box w (.slice x.sa x.sl x.sc) (.slice x.ca x.cl x.cc) (.slice g.sa g.sl g.sc) (.slice g.ca g.cl g.cc) (.int .i64 sd) (.int .i64 fr) (.int .i64 tt)
  obtain ⟨r1, hr1, gs1, zr1⟩ := gsl_made2 wA x g (hx.kept z.out) (hg.kept z.out)
  have SM := small9_any _ 2 2 _ r1 gs1.out.at_
  rw [hs] at SM
  have SM1 := Lib.hid SM
  clear SM hs hx hg hw9 hxl hgl eC eB hx1 hE
  obtain ⟨j0, j1, j2, j3, j4, j5, j6⟩ := J.out.see
  have hr1' := hr1.out
  go_enter Try.func5, Try.ntmps5
  go_upto_region 1 with (fail)
  rw [hwA.out]
  go_wp2_with fail
  clear hr1' j0 j1 j2 j3 j4 j5 j6
  refine SM1.out.mono ?_
  rintro e w1 ⟨rfl, hb1⟩
  have q := zr1.out.trans (hb1.mono zr1.out.size)
  have b1 := Lib.hid (z.out.trans (q.mono z.out.size))
  have JP1 := Lib.hid (J.out.kept q)
  clear hb1 q SM1 J z gs1 zr1 hr1
  obtain ⟨j0, j1, j2, j3, j4, j5, j6⟩ := JP1.out.see
  go_wp2_with fail
  clear j0 j1 j2 j3 j4 j5 j6
  refine (MC.out w1 b1.out).mono ?_
  rintro e y2 ⟨C, rfl, hpC, hGC, -, hb⟩
  obtain ⟨w3, hw3, JC, zx, -⟩ := grid_box y2 (.slice C.sa C.sl C.sc) (.slice C.ca C.cl C.cc)
  have q := hb.trans (zx.out.mono hb.size)
  have b3 := Lib.hid (b1.out.trans (q.mono b1.out.size))
  have KC := Lib.hid (hGC.kept zx.out)
  replace hpC := Lib.hid hpC
  have JP3 := Lib.hid (JP1.out.kept q)
  clear hb q zx hGC MC JP1
  go_upto_region 4 with (fail)
  rw [hw3.out]
  obtain ⟨j0, j1, j2, j3, j4, j5, j6⟩ := JP3.out.see
  go_wp2_with fail
  clear j0 j1 j2 j3 j4 j5 j6
  refine (TC.out w3 b3.out).mono ?_
  rintro e y4 ⟨E, rfl, hpE, hGE, -, hb⟩
  obtain ⟨w5, hw5, JE, zx, -⟩ := grid_box y4 (.slice E.sa E.sl E.sc) (.slice E.ca E.cl E.cc)
  have q := hb.trans (zx.out.mono hb.size)
  have b5 := Lib.hid (b3.out.trans (q.mono b3.out.size))
  have KE := Lib.hid (hGE.kept zx.out)
  replace hpE := Lib.hid hpE
  have JP5 := Lib.hid (JP3.out.kept q)
  have JC5 := Lib.hid (JC.out.kept q)
  have KC5 := Lib.hid (KC.out.kept q)
  clear hb q zx hGE TC JP3 JC KC
  go_upto_region 5 with (fail)
  rw [hw5.out]
  obtain ⟨j0, j1, j2, j3, j4, j5, j6⟩ := JP5.out.see
  go_wp2_with fail
  clear j0 j1 j2 j3 j4 j5 j6
  refine (CB.out w5 b5.out).mono ?_
  rintro e y6 ⟨B, rfl, hpB, hGB, -, hb⟩
  obtain ⟨w7, hw7, JB, zx, -⟩ := grid_box y6 (.slice B.sa B.sl B.sc) (.slice B.ca B.cl B.cc)
  have q := hb.trans (zx.out.mono hb.size)
  have b7 := Lib.hid (b5.out.trans (q.mono b5.out.size))
  have KB := Lib.hid (hGB.kept zx.out)
  replace hpB := Lib.hid hpB
  have JP7 := Lib.hid (JP5.out.kept q)
  have JC7 := Lib.hid (JC5.out.kept q)
  have JE7 := Lib.hid (JE.out.kept q)
  have KC7 := Lib.hid (KC5.out.kept q)
  have KE7 := Lib.hid (KE.out.kept q)
  clear hb q zx hGB CB JP5 JC5 JE KC5 KE
  go_upto_region 6 with (fail)
  rw [hw7.out]
  have EQ := tequal_any C.sa C.sl C.sc C.ss C.ca C.cl C.cc C.cs E.sa E.sl E.sc E.ss E.ca E.cl E.cc E.cs w7 KC7.out.1.1 KC7.out.1.2.1 KE7.out.1.1 KE7.out.1.2.1
  have hCE : pr C = pr E := hpC.out.trans hpE.out.symm
  rw [show sameT C.ss C.cs E.ss E.cs = true by rw [show C.ss = E.ss from congrArg Prod.fst hCE, show C.cs = E.cs from congrArg Prod.snd hCE]; unfold sameT; rw [sameL_self, sameL_self]; rfl] at EQ
  replace EQ := Lib.hid EQ
  obtain ⟨c0, c1, -, -⟩ := JC7.out.see
  obtain ⟨d0, d1, -, -⟩ := JE7.out.see
  clear hCE
  go_wp2_with fail
  clear c0 c1 d0 d1
  refine EQ.out.mono ?_
  rintro e w8 ⟨rfl, hb8⟩
  have b8 := Lib.hid (b7.out.trans (hb8.mono b7.out.size))
  have JP8 := Lib.hid (JP7.out.kept hb8)
  have JB8 := Lib.hid (JB.out.kept hb8)
  have KB8 := Lib.hid (KB.out.kept hb8)
  have JC8 := Lib.hid (JC7.out.kept hb8)
  have KC8 := Lib.hid (KC7.out.kept hb8)
  clear hb8 EQ JP7 JB KB JC7 JE7 KC7 KE7
  have hcl := nilP_cl KB8.out hpB.out
  rw [hcl] at JB8
  obtain ⟨o0, o1, -, -⟩ := JB8.out.see
  clear hcl
  go_wp2_with fail
  clear o0 o1
  refine (awake09_any _).mono ?_
  rintro e w20 ⟨rfl, hb20⟩
  have b20 := Lib.hid (b8.out.trans (hb20.mono b8.out.size))
  clear hb20
  go_wp2_with fail
  go_ret
  exact ⟨rfl, b20.out⟩

set_option maxRecDepth 100000 in
set_option maxHeartbeats 8000000 in
theorem mcuts_bad1 (x g : TV) (k n P M fr tt : Nat) (w : World) (hx : Good x w) (hg : Good g w) (hs : small9 [x, g] = true) (hN : NumT (pr x).1 k n P M) (hxo : okP (pr x) = true) (hft : fr < tt) (htn : tt ≤ n) (hq : rightT g.ss g.cl = false) :
    Calls Try.prog 5 #[.agg #[.slice x.sa x.sl x.sc, .slice x.ca x.cl x.cc, .slice g.sa g.sl g.sc, .slice g.ca g.cl g.cc, .int .i64 k, .int .i64 fr, .int .i64 tt]] w fun e w' => e = .returned (.bool true) ∧ Below w.heap.size w w' := by
  have hw9 := small9_le hs
  have hxl : x.cl ≤ 1000 := by have := wtsM_mem (t := x) (ts := [x, g]) (by simp); omega
  have hgl : g.cl ≤ 1000 := by have := wtsM_mem (t := g) (ts := [x, g]) (by simp); omega
  have MC := fun w1 (hb : Below w.heap.size w w1) => mcut_any x k fr tt w1 (hx.kept hb) (by omega)
  have TC := fun w1 (hb : Below w.heap.size w w1) => tcut_any x k fr tt w1 (hx.kept hb) (by omega)
  have CB := fun w1 (hb : Below w.heap.size w w1) => cback_any x g k fr tt w1 (hx.kept hb) (hg.kept hb) hxl
  obtain ⟨p1, hp1⟩ : ∃ p1, (cutR (pr x) k fr tt).2 = p1 := ⟨_, rfl⟩
  have hcut : cutR (pr x) k fr tt = (0, p1) := by rw [← hp1, cutR_at hN hxo hft htn]
  have eB : cbackR (pr x) (pr g) k fr tt = (20, nilP) := by unfold cbackR; rw [if_neg (by rw [hcut]; simp), if_pos (by rw [hg.ok, hq]; rfl)]
  rw [eB] at CB
  rw [hcut] at MC TC
  replace MC := Lib.hid MC
  replace TC := Lib.hid TC
  replace CB := Lib.hid CB
  have RX := fun w1 (hb : Below w.heap.size w w1) => right9_any x.sa x.sl x.sc x.ss x.ca x.cl x.cc w1 (hx.kept hb).1.1 (by omega)
  rw [show rightT x.ss x.cl = true by rw [← hx.ok]; exact hxo] at RX
  replace RX := Lib.hid RX
  have RG := fun w1 (hb : Below w.heap.size w w1) => right9_any g.sa g.sl g.sc g.ss g.ca g.cl g.cc w1 (hg.kept hb).1.1 (by omega)
  rw [hq] at RG
  replace RG := Lib.hid RG
  have HG := Lib.hid (fun w1 (hb : Below w.heap.size w w1) => hg.kept hb)
  have HX := Lib.hid (fun w1 (hb : Below w.heap.size w w1) => hx.kept hb)
  have dk : ¬ (x.sl : Int) ≤ (k : Int) := by have h1 : k < x.ss.length := hN.len; have := hx.slen; omega
  have dk0 : ¬ (k : Int) < 0 := by omega
  obtain ⟨wA, hwA, J, z, n1⟩ := part9_box w (.slice x.sa x.sl x.sc) (.slice x.ca x.cl x.cc) (.slice g.sa g.sl g.sc) (.slice g.ca g.cl g.cc) (.int .i64 k) (.int .i64 fr) (.int .i64 tt)
  obtain ⟨r1, hr1, gs1, zr1⟩ := gsl_made2 wA x g (hx.kept z.out) (hg.kept z.out)
  have SM := small9_any _ 2 2 _ r1 gs1.out.at_
  rw [hs] at SM
  have SM1 := Lib.hid SM
  clear SM hs hx hg hw9 hxl hgl eB hcut hp1 hq hN hxo hft htn
  obtain ⟨j0, j1, j2, j3, j4, j5, j6⟩ := J.out.see
  have hr1' := hr1.out
  go_enter Try.func5, Try.ntmps5
  go_upto_region 1 with (fail)
  rw [hwA.out]
  go_wp2_with fail
  clear hr1' j0 j1 j2 j3 j4 j5 j6
  refine SM1.out.mono ?_
  rintro e w1 ⟨rfl, hb1⟩
  have q := zr1.out.trans (hb1.mono zr1.out.size)
  have b1 := Lib.hid (z.out.trans (q.mono z.out.size))
  have JP1 := Lib.hid (J.out.kept q)
  clear hb1 q SM1 J z gs1 zr1 hr1
  obtain ⟨j0, j1, j2, j3, j4, j5, j6⟩ := JP1.out.see
  go_wp2_with fail
  clear j0 j1 j2 j3 j4 j5 j6
  refine (MC.out w1 b1.out).mono ?_
  rintro e y2 ⟨C, rfl, hpC, hGC, -, hb⟩
  obtain ⟨w3, hw3, JC, zx, -⟩ := grid_box y2 (.slice C.sa C.sl C.sc) (.slice C.ca C.cl C.cc)
  have q := hb.trans (zx.out.mono hb.size)
  have b3 := Lib.hid (b1.out.trans (q.mono b1.out.size))
  have KC := Lib.hid (hGC.kept zx.out)
  replace hpC := Lib.hid hpC
  have JP3 := Lib.hid (JP1.out.kept q)
  clear hb q zx hGC MC JP1
  go_upto_region 4 with (fail)
  rw [hw3.out]
  obtain ⟨j0, j1, j2, j3, j4, j5, j6⟩ := JP3.out.see
  go_wp2_with fail
  clear j0 j1 j2 j3 j4 j5 j6
  refine (TC.out w3 b3.out).mono ?_
  rintro e y4 ⟨E, rfl, hpE, hGE, -, hb⟩
  obtain ⟨w5, hw5, JE, zx, -⟩ := grid_box y4 (.slice E.sa E.sl E.sc) (.slice E.ca E.cl E.cc)
  have q := hb.trans (zx.out.mono hb.size)
  have b5 := Lib.hid (b3.out.trans (q.mono b3.out.size))
  have KE := Lib.hid (hGE.kept zx.out)
  replace hpE := Lib.hid hpE
  have JP5 := Lib.hid (JP3.out.kept q)
  have JC5 := Lib.hid (JC.out.kept q)
  have KC5 := Lib.hid (KC.out.kept q)
  clear hb q zx hGE TC JP3 JC KC
  go_upto_region 5 with (fail)
  rw [hw5.out]
  obtain ⟨j0, j1, j2, j3, j4, j5, j6⟩ := JP5.out.see
  go_wp2_with fail
  clear j0 j1 j2 j3 j4 j5 j6
  refine (CB.out w5 b5.out).mono ?_
  rintro e y6 ⟨B, rfl, hpB, hGB, -, hb⟩
  obtain ⟨w7, hw7, JB, zx, -⟩ := grid_box y6 (.slice B.sa B.sl B.sc) (.slice B.ca B.cl B.cc)
  have q := hb.trans (zx.out.mono hb.size)
  have b7 := Lib.hid (b5.out.trans (q.mono b5.out.size))
  have KB := Lib.hid (hGB.kept zx.out)
  replace hpB := Lib.hid hpB
  have JP7 := Lib.hid (JP5.out.kept q)
  have JC7 := Lib.hid (JC5.out.kept q)
  have JE7 := Lib.hid (JE.out.kept q)
  have KC7 := Lib.hid (KC5.out.kept q)
  have KE7 := Lib.hid (KE.out.kept q)
  clear hb q zx hGB CB JP5 JC5 JE KC5 KE
  go_upto_region 6 with (fail)
  rw [hw7.out]
  have EQ := tequal_any C.sa C.sl C.sc C.ss C.ca C.cl C.cc C.cs E.sa E.sl E.sc E.ss E.ca E.cl E.cc E.cs w7 KC7.out.1.1 KC7.out.1.2.1 KE7.out.1.1 KE7.out.1.2.1
  have hCE : pr C = pr E := hpC.out.trans hpE.out.symm
  rw [show sameT C.ss C.cs E.ss E.cs = true by rw [show C.ss = E.ss from congrArg Prod.fst hCE, show C.cs = E.cs from congrArg Prod.snd hCE]; unfold sameT; rw [sameL_self, sameL_self]; rfl] at EQ
  replace EQ := Lib.hid EQ
  obtain ⟨c0, c1, -, -⟩ := JC7.out.see
  obtain ⟨d0, d1, -, -⟩ := JE7.out.see
  clear hCE
  go_wp2_with fail
  clear c0 c1 d0 d1
  refine EQ.out.mono ?_
  rintro e w8 ⟨rfl, hb8⟩
  have b8 := Lib.hid (b7.out.trans (hb8.mono b7.out.size))
  have JP8 := Lib.hid (JP7.out.kept hb8)
  have JB8 := Lib.hid (JB.out.kept hb8)
  have KB8 := Lib.hid (KB.out.kept hb8)
  have JC8 := Lib.hid (JC7.out.kept hb8)
  have KC8 := Lib.hid (KC7.out.kept hb8)
  clear hb8 EQ JP7 JB KB JC7 JE7 KC7 KE7
  obtain ⟨j0, j1, j2, j3, j4, j5, j6⟩ := JP8.out.see
  go_wp2_with fail
  clear j0 j1 j2 j3 j4 j5 j6
  refine (RX.out w8 b8.out).mono ?_
  rintro e w9 ⟨rfl, hb9⟩
  have b9 := Lib.hid (b8.out.trans (hb9.mono b8.out.size))
  have JP9 := Lib.hid (JP8.out.kept hb9)
  have JB9 := Lib.hid (JB8.out.kept hb9)
  have KB9 := Lib.hid (KB8.out.kept hb9)
  have JC9 := Lib.hid (JC8.out.kept hb9)
  have KC9 := Lib.hid (KC8.out.kept hb9)
  clear hb9 JP8 JB8 KB8 JC8 KC8
  obtain ⟨j0, j1, j2, j3, j4, j5, j6⟩ := JP9.out.see
  go_wp2_with fail
  clear j0 j1 j2 j3 j4 j5 j6
  refine (RG.out w9 b9.out).mono ?_
  rintro e w10 ⟨rfl, hb10⟩
  have b10 := Lib.hid (b9.out.trans (hb10.mono b9.out.size))
  have JP10 := Lib.hid (JP9.out.kept hb10)
  have JB10 := Lib.hid (JB9.out.kept hb10)
  have KB10 := Lib.hid (KB9.out.kept hb10)
  have JC10 := Lib.hid (JC9.out.kept hb10)
  have KC10 := Lib.hid (KC9.out.kept hb10)
  clear hb10 JP9 JB9 KB9 JC9 KC9
  have hcl := nilP_cl KB10.out hpB.out
  rw [hcl] at JB10
  obtain ⟨o0, o1, -, -⟩ := JB10.out.see
  clear hcl
  go_wp2_with fail
  clear o0 o1
  refine (awake09_any _).mono ?_
  rintro e w20 ⟨rfl, hb20⟩
  have b20 := Lib.hid (b10.out.trans (hb20.mono b10.out.size))
  clear hb20
  go_wp2_with fail
  go_ret
  exact ⟨rfl, b20.out⟩

set_option maxRecDepth 100000 in
set_option maxHeartbeats 8000000 in
theorem mcuts_bad2 (x g : TV) (k n P M fr tt : Nat) (w : World) (hx : Good x w) (hg : Good g w) (hs : small9 [x, g] = true) (hN : NumT (pr x).1 k n P M) (hxo : okP (pr x) = true) (hft : fr < tt) (htn : tt ≤ n) (hq : rightT g.ss g.cl = true) (hq2 : sameL g.ss (cutR (pr x) k fr tt).2.1 = false) :
    Calls Try.prog 5 #[.agg #[.slice x.sa x.sl x.sc, .slice x.ca x.cl x.cc, .slice g.sa g.sl g.sc, .slice g.ca g.cl g.cc, .int .i64 k, .int .i64 fr, .int .i64 tt]] w fun e w' => e = .returned (.bool true) ∧ Below w.heap.size w w' := by
  have hw9 := small9_le hs
  have hxl : x.cl ≤ 1000 := by have := wtsM_mem (t := x) (ts := [x, g]) (by simp); omega
  have hgl : g.cl ≤ 1000 := by have := wtsM_mem (t := g) (ts := [x, g]) (by simp); omega
  have MC := fun w1 (hb : Below w.heap.size w w1) => mcut_any x k fr tt w1 (hx.kept hb) (by omega)
  have TC := fun w1 (hb : Below w.heap.size w w1) => tcut_any x k fr tt w1 (hx.kept hb) (by omega)
  have CB := fun w1 (hb : Below w.heap.size w w1) => cback_any x g k fr tt w1 (hx.kept hb) (hg.kept hb) hxl
  obtain ⟨p1, hp1⟩ : ∃ p1, (cutR (pr x) k fr tt).2 = p1 := ⟨_, rfl⟩
  have hcut : cutR (pr x) k fr tt = (0, p1) := by rw [← hp1, cutR_at hN hxo hft htn]
  have eB : cbackR (pr x) (pr g) k fr tt = (20, nilP) := by unfold cbackR; rw [if_neg (by rw [hcut]; simp), if_pos (by show (okP (pr g) && sameL g.ss (cutR (pr x) k fr tt).2.1) = false; rw [hq2, Bool.and_false])]
  rw [eB] at CB
  have HQ2 := Lib.hid (show sameL g.ss p1.1 = false by rw [← hp1]; exact hq2)
  rw [hcut] at MC TC
  replace MC := Lib.hid MC
  replace TC := Lib.hid TC
  replace CB := Lib.hid CB
  have RX := fun w1 (hb : Below w.heap.size w w1) => right9_any x.sa x.sl x.sc x.ss x.ca x.cl x.cc w1 (hx.kept hb).1.1 (by omega)
  rw [show rightT x.ss x.cl = true by rw [← hx.ok]; exact hxo] at RX
  replace RX := Lib.hid RX
  have RG := fun w1 (hb : Below w.heap.size w w1) => right9_any g.sa g.sl g.sc g.ss g.ca g.cl g.cc w1 (hg.kept hb).1.1 (by omega)
  rw [hq] at RG
  replace RG := Lib.hid RG
  have HG := Lib.hid (fun w1 (hb : Below w.heap.size w w1) => hg.kept hb)
  have HX := Lib.hid (fun w1 (hb : Below w.heap.size w w1) => hx.kept hb)
  have dk : ¬ (x.sl : Int) ≤ (k : Int) := by have h1 : k < x.ss.length := hN.len; have := hx.slen; omega
  have dk0 : ¬ (k : Int) < 0 := by omega
  obtain ⟨wA, hwA, J, z, n1⟩ := part9_box w (.slice x.sa x.sl x.sc) (.slice x.ca x.cl x.cc) (.slice g.sa g.sl g.sc) (.slice g.ca g.cl g.cc) (.int .i64 k) (.int .i64 fr) (.int .i64 tt)
  obtain ⟨r1, hr1, gs1, zr1⟩ := gsl_made2 wA x g (hx.kept z.out) (hg.kept z.out)
  have SM := small9_any _ 2 2 _ r1 gs1.out.at_
  rw [hs] at SM
  have SM1 := Lib.hid SM
  clear SM hs hx hg hw9 hxl hgl eB hcut hp1 hq hq2 hN hxo hft htn
  obtain ⟨j0, j1, j2, j3, j4, j5, j6⟩ := J.out.see
  have hr1' := hr1.out
  go_enter Try.func5, Try.ntmps5
  go_upto_region 1 with (fail)
  rw [hwA.out]
  go_wp2_with fail
  clear hr1' j0 j1 j2 j3 j4 j5 j6
  refine SM1.out.mono ?_
  rintro e w1 ⟨rfl, hb1⟩
  have q := zr1.out.trans (hb1.mono zr1.out.size)
  have b1 := Lib.hid (z.out.trans (q.mono z.out.size))
  have JP1 := Lib.hid (J.out.kept q)
  clear hb1 q SM1 J z gs1 zr1 hr1
  obtain ⟨j0, j1, j2, j3, j4, j5, j6⟩ := JP1.out.see
  go_wp2_with fail
  clear j0 j1 j2 j3 j4 j5 j6
  refine (MC.out w1 b1.out).mono ?_
  rintro e y2 ⟨C, rfl, hpC, hGC, -, hb⟩
  obtain ⟨w3, hw3, JC, zx, -⟩ := grid_box y2 (.slice C.sa C.sl C.sc) (.slice C.ca C.cl C.cc)
  have q := hb.trans (zx.out.mono hb.size)
  have b3 := Lib.hid (b1.out.trans (q.mono b1.out.size))
  have KC := Lib.hid (hGC.kept zx.out)
  replace hpC := Lib.hid hpC
  have JP3 := Lib.hid (JP1.out.kept q)
  clear hb q zx hGC MC JP1
  go_upto_region 4 with (fail)
  rw [hw3.out]
  obtain ⟨j0, j1, j2, j3, j4, j5, j6⟩ := JP3.out.see
  go_wp2_with fail
  clear j0 j1 j2 j3 j4 j5 j6
  refine (TC.out w3 b3.out).mono ?_
  rintro e y4 ⟨E, rfl, hpE, hGE, -, hb⟩
  obtain ⟨w5, hw5, JE, zx, -⟩ := grid_box y4 (.slice E.sa E.sl E.sc) (.slice E.ca E.cl E.cc)
  have q := hb.trans (zx.out.mono hb.size)
  have b5 := Lib.hid (b3.out.trans (q.mono b3.out.size))
  have KE := Lib.hid (hGE.kept zx.out)
  replace hpE := Lib.hid hpE
  have JP5 := Lib.hid (JP3.out.kept q)
  have JC5 := Lib.hid (JC.out.kept q)
  have KC5 := Lib.hid (KC.out.kept q)
  clear hb q zx hGE TC JP3 JC KC
  go_upto_region 5 with (fail)
  rw [hw5.out]
  obtain ⟨j0, j1, j2, j3, j4, j5, j6⟩ := JP5.out.see
  go_wp2_with fail
  clear j0 j1 j2 j3 j4 j5 j6
  refine (CB.out w5 b5.out).mono ?_
  rintro e y6 ⟨B, rfl, hpB, hGB, -, hb⟩
  obtain ⟨w7, hw7, JB, zx, -⟩ := grid_box y6 (.slice B.sa B.sl B.sc) (.slice B.ca B.cl B.cc)
  have q := hb.trans (zx.out.mono hb.size)
  have b7 := Lib.hid (b5.out.trans (q.mono b5.out.size))
  have KB := Lib.hid (hGB.kept zx.out)
  replace hpB := Lib.hid hpB
  have JP7 := Lib.hid (JP5.out.kept q)
  have JC7 := Lib.hid (JC5.out.kept q)
  have JE7 := Lib.hid (JE.out.kept q)
  have KC7 := Lib.hid (KC5.out.kept q)
  have KE7 := Lib.hid (KE.out.kept q)
  clear hb q zx hGB CB JP5 JC5 JE KC5 KE
  go_upto_region 6 with (fail)
  rw [hw7.out]
  have EQ := tequal_any C.sa C.sl C.sc C.ss C.ca C.cl C.cc C.cs E.sa E.sl E.sc E.ss E.ca E.cl E.cc E.cs w7 KC7.out.1.1 KC7.out.1.2.1 KE7.out.1.1 KE7.out.1.2.1
  have hCE : pr C = pr E := hpC.out.trans hpE.out.symm
  rw [show sameT C.ss C.cs E.ss E.cs = true by rw [show C.ss = E.ss from congrArg Prod.fst hCE, show C.cs = E.cs from congrArg Prod.snd hCE]; unfold sameT; rw [sameL_self, sameL_self]; rfl] at EQ
  replace EQ := Lib.hid EQ
  obtain ⟨c0, c1, -, -⟩ := JC7.out.see
  obtain ⟨d0, d1, -, -⟩ := JE7.out.see
  clear hCE
  go_wp2_with fail
  clear c0 c1 d0 d1
  refine EQ.out.mono ?_
  rintro e w8 ⟨rfl, hb8⟩
  have b8 := Lib.hid (b7.out.trans (hb8.mono b7.out.size))
  have JP8 := Lib.hid (JP7.out.kept hb8)
  have JB8 := Lib.hid (JB.out.kept hb8)
  have KB8 := Lib.hid (KB.out.kept hb8)
  have JC8 := Lib.hid (JC7.out.kept hb8)
  have KC8 := Lib.hid (KC7.out.kept hb8)
  clear hb8 EQ JP7 JB KB JC7 JE7 KC7 KE7
  obtain ⟨j0, j1, j2, j3, j4, j5, j6⟩ := JP8.out.see
  go_wp2_with fail
  clear j0 j1 j2 j3 j4 j5 j6
  refine (RX.out w8 b8.out).mono ?_
  rintro e w9 ⟨rfl, hb9⟩
  have b9 := Lib.hid (b8.out.trans (hb9.mono b8.out.size))
  have JP9 := Lib.hid (JP8.out.kept hb9)
  have JB9 := Lib.hid (JB8.out.kept hb9)
  have KB9 := Lib.hid (KB8.out.kept hb9)
  have JC9 := Lib.hid (JC8.out.kept hb9)
  have KC9 := Lib.hid (KC8.out.kept hb9)
  clear hb9 JP8 JB8 KB8 JC8 KC8
  obtain ⟨j0, j1, j2, j3, j4, j5, j6⟩ := JP9.out.see
  go_wp2_with fail
  clear j0 j1 j2 j3 j4 j5 j6
  refine (RG.out w9 b9.out).mono ?_
  rintro e w10 ⟨rfl, hb10⟩
  have b10 := Lib.hid (b9.out.trans (hb10.mono b9.out.size))
  have JP10 := Lib.hid (JP9.out.kept hb10)
  have JB10 := Lib.hid (JB9.out.kept hb10)
  have KB10 := Lib.hid (KB9.out.kept hb10)
  have JC10 := Lib.hid (JC9.out.kept hb10)
  have KC10 := Lib.hid (KC9.out.kept hb10)
  clear hb10 JP9 JB9 KB9 JC9 KC9
  have SE := same_any g.sa g.sl g.sc g.ss C.sa C.sl C.sc C.ss w10 (HG.out w10 b10.out).1.1 KC10.out.1.1
  rw [show C.ss = p1.1 from congrArg Prod.fst hpC.out] at SE
  rw [HQ2.out] at SE
  replace SE := Lib.hid SE
  obtain ⟨j0, j1, j2, j3, j4, j5, j6⟩ := JP10.out.see
  obtain ⟨c0, c1, -, -⟩ := JC10.out.see
  go_wp2_with fail
  clear j0 j1 j2 j3 j4 j5 j6 c0 c1
  refine SE.out.mono ?_
  rintro e w11 ⟨rfl, nq, hw11⟩
  have q := (show Below w10.heap.size w10 w11 by rw [hw11]; exact below_drewN' (Below.refl _ _) nq)
  have b11 := Lib.hid (b10.out.trans (q.mono b10.out.size))
  have JP11 := Lib.hid (JP10.out.kept q)
  have JB11 := Lib.hid (JB10.out.kept q)
  have KB11 := Lib.hid (KB10.out.kept q)
  clear q hw11 SE JP10 JB10 KB10 JC10 KC10
  have hcl := nilP_cl KB11.out hpB.out
  rw [hcl] at JB11
  obtain ⟨o0, o1, -, -⟩ := JB11.out.see
  clear hcl
  go_wp2_with fail
  clear o0 o1
  refine (awake09_any _).mono ?_
  rintro e w20 ⟨rfl, hb20⟩
  have b20 := Lib.hid (b11.out.trans (hb20.mono b11.out.size))
  clear hb20
  go_wp2_with fail
  go_ret
  exact ⟨rfl, b20.out⟩

set_option maxRecDepth 100000 in
set_option maxHeartbeats 16000000 in
theorem mcuts_ok (x g : TV) (k n P M fr tt : Nat) (w : World) (hx : Good x w) (hg : Good g w) (hs : small9 [x, g] = true) (hN : NumT (pr x).1 k n P M) (hxo : okP (pr x) = true) (hft : fr < tt) (htn : tt ≤ n) (hq : rightT g.ss g.cl = true) (hq2 : sameL g.ss (cutR (pr x) k fr tt).2.1 = true) :
    Calls Try.prog 5 #[.agg #[.slice x.sa x.sl x.sc, .slice x.ca x.cl x.cc, .slice g.sa g.sl g.sc, .slice g.ca g.cl g.cc, .int .i64 k, .int .i64 fr, .int .i64 tt]] w fun e w' => e = .returned (.bool true) ∧ Below w.heap.size w w' := by
  have hw9 := small9_le hs
  have hxl : x.cl ≤ 1000 := by have := wtsM_mem (t := x) (ts := [x, g]) (by simp); omega
  have hgl : g.cl ≤ 1000 := by have := wtsM_mem (t := g) (ts := [x, g]) (by simp); omega
  have MC := fun w1 (hb : Below w.heap.size w w1) => mcut_any x k fr tt w1 (hx.kept hb) (by omega)
  have TC := fun w1 (hb : Below w.heap.size w w1) => tcut_any x k fr tt w1 (hx.kept hb) (by omega)
  have CB := fun w1 (hb : Below w.heap.size w w1) => cback_any x g k fr tt w1 (hx.kept hb) (hg.kept hb) hxl
  obtain ⟨p1, hp1⟩ : ∃ p1, (cutR (pr x) k fr tt).2 = p1 := ⟨_, rfl⟩
  have hcut : cutR (pr x) k fr tt = (0, p1) := by rw [← hp1, cutR_at hN hxo hft htn]
  have hcat := cutR_at hN hxo hft htn
  have heg : g.ss = x.ss.set k ((tt - fr : Nat) : Int) := by
    have := sameL_eq hq2
    rw [hcat] at this
    exact this
  have hgo : okP (pr g) = true := by rw [hg.ok]; exact hq
  have eB : cbackR (pr x) (pr g) k fr tt = (0, (x.ss, spreadP g.cs (fr * P) ((tt - fr) * P) ((n - tt) * P) M)) := by
    unfold cbackR
    rw [if_neg (by rw [hcut]; simp), if_neg (by show ¬ (okP (pr g) && sameL g.ss (cutR (pr x) k fr tt).2.1) = false; rw [hgo, hq2]; decide)]
    exact cback_ok hN hxo hft htn hgo heg
  rw [eB] at CB
  have HQ2 := Lib.hid (show sameL g.ss p1.1 = true by rw [← hp1]; exact hq2)
  have hr := (rightT_parts hxo).1
  have hgN : NumT (pr g).1 k (tt - fr) P M := by show NumT g.ss k (tt - fr) P M; rw [heg]; exact (hN.set_le hr (y := tt - fr) (by omega) (by omega)).2
  have hglen : g.cl = M * ((tt - fr) * P) := by rw [← hg.len]; exact okP_len hgN hgo
  have hxlen : M * (n * P) = x.cl := by rw [← hx.len]; exact (okP_len hN hxo).symm
  have SP := Lib.hid (fun (w1 : World) (ga : Option Addr) (gc : Nat) (hb : Below w.heap.size w w1) (hi : IntsAt w1 ga g.cl g.cs) => hxlen ▸ spread_any x.sa x.sl x.sc x.ss ga g.cl gc g.cs k fr tt n P M w1 (hx.kept hb).1.1 hx.2.2.1 hx.2.2.2 hi hr hN hft htn hglen (by rw [hxlen]; exact hxl))
  have hgpos : 0 < g.cl := rightT_pos hq
  have hcl9 := Lib.hid hg.len
  have HSL := Lib.hid hx.slen
  obtain ⟨FL, hFL⟩ : ∃ FL, spreadP g.cs (fr * P) ((tt - fr) * P) ((n - tt) * P) M = FL := ⟨_, rfl⟩
  have hFLl : Hid (FL.length = x.cl) := Lib.hid (by rw [← hFL, ← hxlen]; exact parts_cells (x := pr x) hN (by omega) htn (by rw [hg.len]; exact hglen))
  rw [hFL] at CB SP
  obtain ⟨i0, hi, hz0, hz1, hz2⟩ := info_parts i64Info
  rw [hcut] at MC TC
  replace MC := Lib.hid MC
  replace TC := Lib.hid TC
  replace CB := Lib.hid CB
  have RX := fun w1 (hb : Below w.heap.size w w1) => right9_any x.sa x.sl x.sc x.ss x.ca x.cl x.cc w1 (hx.kept hb).1.1 (by omega)
  rw [show rightT x.ss x.cl = true by rw [← hx.ok]; exact hxo] at RX
  replace RX := Lib.hid RX
  have RG := fun w1 (hb : Below w.heap.size w w1) => right9_any g.sa g.sl g.sc g.ss g.ca g.cl g.cc w1 (hg.kept hb).1.1 (by omega)
  rw [hq] at RG
  replace RG := Lib.hid RG
  have HG := Lib.hid (fun w1 (hb : Below w.heap.size w w1) => hg.kept hb)
  have HX := Lib.hid (fun w1 (hb : Below w.heap.size w w1) => hx.kept hb)
  have dk : ¬ (x.sl : Int) ≤ (k : Int) := by have h1 : k < x.ss.length := hN.len; have := hx.slen; omega
  have dk0 : ¬ (k : Int) < 0 := by omega
  obtain ⟨wA, hwA, J, z, n1⟩ := part9_box w (.slice x.sa x.sl x.sc) (.slice x.ca x.cl x.cc) (.slice g.sa g.sl g.sc) (.slice g.ca g.cl g.cc) (.int .i64 k) (.int .i64 fr) (.int .i64 tt)
  obtain ⟨r1, hr1, gs1, zr1⟩ := gsl_made2 wA x g (hx.kept z.out) (hg.kept z.out)
  have SM := small9_any _ 2 2 _ r1 gs1.out.at_
  rw [hs] at SM
  have SM1 := Lib.hid SM
  clear SM hs hx hg hw9 eB hcut hp1 hq hq2 hN hxo hft htn hcat heg hgo hr hgN hglen hxlen hFL
  obtain ⟨j0, j1, j2, j3, j4, j5, j6⟩ := J.out.see
  have hr1' := hr1.out
  go_enter Try.func5, Try.ntmps5
  go_upto_region 1 with (fail)
  rw [hwA.out]
  go_wp2_with fail
  clear hr1' j0 j1 j2 j3 j4 j5 j6
  refine SM1.out.mono ?_
  rintro e w1 ⟨rfl, hb1⟩
  have q := zr1.out.trans (hb1.mono zr1.out.size)
  have b1 := Lib.hid (z.out.trans (q.mono z.out.size))
  have JP1 := Lib.hid (J.out.kept q)
  clear hb1 q SM1 J z gs1 zr1 hr1
  obtain ⟨j0, j1, j2, j3, j4, j5, j6⟩ := JP1.out.see
  go_wp2_with fail
  clear j0 j1 j2 j3 j4 j5 j6
  refine (MC.out w1 b1.out).mono ?_
  rintro e y2 ⟨C, rfl, hpC, hGC, -, hb⟩
  obtain ⟨w3, hw3, JC, zx, -⟩ := grid_box y2 (.slice C.sa C.sl C.sc) (.slice C.ca C.cl C.cc)
  have q := hb.trans (zx.out.mono hb.size)
  have b3 := Lib.hid (b1.out.trans (q.mono b1.out.size))
  have KC := Lib.hid (hGC.kept zx.out)
  replace hpC := Lib.hid hpC
  have JP3 := Lib.hid (JP1.out.kept q)
  clear hb q zx hGC MC JP1
  go_upto_region 4 with (fail)
  rw [hw3.out]
  obtain ⟨j0, j1, j2, j3, j4, j5, j6⟩ := JP3.out.see
  go_wp2_with fail
  clear j0 j1 j2 j3 j4 j5 j6
  refine (TC.out w3 b3.out).mono ?_
  rintro e y4 ⟨E, rfl, hpE, hGE, -, hb⟩
  obtain ⟨w5, hw5, JE, zx, -⟩ := grid_box y4 (.slice E.sa E.sl E.sc) (.slice E.ca E.cl E.cc)
  have q := hb.trans (zx.out.mono hb.size)
  have b5 := Lib.hid (b3.out.trans (q.mono b3.out.size))
  have KE := Lib.hid (hGE.kept zx.out)
  replace hpE := Lib.hid hpE
  have JP5 := Lib.hid (JP3.out.kept q)
  have JC5 := Lib.hid (JC.out.kept q)
  have KC5 := Lib.hid (KC.out.kept q)
  clear hb q zx hGE TC JP3 JC KC
  go_upto_region 5 with (fail)
  rw [hw5.out]
  obtain ⟨j0, j1, j2, j3, j4, j5, j6⟩ := JP5.out.see
  go_wp2_with fail
  clear j0 j1 j2 j3 j4 j5 j6
  refine (CB.out w5 b5.out).mono ?_
  rintro e y6 ⟨B, rfl, hpB, hGB, -, hb⟩
  obtain ⟨w7, hw7, JB, zx, -⟩ := grid_box y6 (.slice B.sa B.sl B.sc) (.slice B.ca B.cl B.cc)
  have q := hb.trans (zx.out.mono hb.size)
  have b7 := Lib.hid (b5.out.trans (q.mono b5.out.size))
  have KB := Lib.hid (hGB.kept zx.out)
  replace hpB := Lib.hid hpB
  have JP7 := Lib.hid (JP5.out.kept q)
  have JC7 := Lib.hid (JC5.out.kept q)
  have JE7 := Lib.hid (JE.out.kept q)
  have KC7 := Lib.hid (KC5.out.kept q)
  have KE7 := Lib.hid (KE.out.kept q)
  clear hb q zx hGB CB JP5 JC5 JE KC5 KE
  go_upto_region 6 with (fail)
  rw [hw7.out]
  have EQ := tequal_any C.sa C.sl C.sc C.ss C.ca C.cl C.cc C.cs E.sa E.sl E.sc E.ss E.ca E.cl E.cc E.cs w7 KC7.out.1.1 KC7.out.1.2.1 KE7.out.1.1 KE7.out.1.2.1
  have hCE : pr C = pr E := hpC.out.trans hpE.out.symm
  rw [show sameT C.ss C.cs E.ss E.cs = true by rw [show C.ss = E.ss from congrArg Prod.fst hCE, show C.cs = E.cs from congrArg Prod.snd hCE]; unfold sameT; rw [sameL_self, sameL_self]; rfl] at EQ
  replace EQ := Lib.hid EQ
  obtain ⟨c0, c1, -, -⟩ := JC7.out.see
  obtain ⟨d0, d1, -, -⟩ := JE7.out.see
  clear hCE
  go_wp2_with fail
  clear c0 c1 d0 d1
  refine EQ.out.mono ?_
  rintro e w8 ⟨rfl, hb8⟩
  have b8 := Lib.hid (b7.out.trans (hb8.mono b7.out.size))
  have JP8 := Lib.hid (JP7.out.kept hb8)
  have JB8 := Lib.hid (JB.out.kept hb8)
  have KB8 := Lib.hid (KB.out.kept hb8)
  have JC8 := Lib.hid (JC7.out.kept hb8)
  have KC8 := Lib.hid (KC7.out.kept hb8)
  clear hb8 EQ JP7 JB KB JC7 JE7 KC7 KE7
  obtain ⟨j0, j1, j2, j3, j4, j5, j6⟩ := JP8.out.see
  go_wp2_with fail
  clear j0 j1 j2 j3 j4 j5 j6
  refine (RX.out w8 b8.out).mono ?_
  rintro e w9 ⟨rfl, hb9⟩
  have b9 := Lib.hid (b8.out.trans (hb9.mono b8.out.size))
  have JP9 := Lib.hid (JP8.out.kept hb9)
  have JB9 := Lib.hid (JB8.out.kept hb9)
  have KB9 := Lib.hid (KB8.out.kept hb9)
  have JC9 := Lib.hid (JC8.out.kept hb9)
  have KC9 := Lib.hid (KC8.out.kept hb9)
  clear hb9 JP8 JB8 KB8 JC8 KC8
  obtain ⟨j0, j1, j2, j3, j4, j5, j6⟩ := JP9.out.see
  go_wp2_with fail
  clear j0 j1 j2 j3 j4 j5 j6
  refine (RG.out w9 b9.out).mono ?_
  rintro e w10 ⟨rfl, hb10⟩
  have b10 := Lib.hid (b9.out.trans (hb10.mono b9.out.size))
  have JP10 := Lib.hid (JP9.out.kept hb10)
  have JB10 := Lib.hid (JB9.out.kept hb10)
  have KB10 := Lib.hid (KB9.out.kept hb10)
  have JC10 := Lib.hid (JC9.out.kept hb10)
  have KC10 := Lib.hid (KC9.out.kept hb10)
  clear hb10 JP9 JB9 KB9 JC9 KC9
  have SE := same_any g.sa g.sl g.sc g.ss C.sa C.sl C.sc C.ss w10 (HG.out w10 b10.out).1.1 KC10.out.1.1
  rw [show C.ss = p1.1 from congrArg Prod.fst hpC.out] at SE
  rw [HQ2.out] at SE
  replace SE := Lib.hid SE
  obtain ⟨j0, j1, j2, j3, j4, j5, j6⟩ := JP10.out.see
  obtain ⟨c0, c1, -, -⟩ := JC10.out.see
  go_wp2_with fail
  clear j0 j1 j2 j3 j4 j5 j6 c0 c1
  refine SE.out.mono ?_
  rintro e w11 ⟨rfl, nq, hw11⟩
  have q := (show Below w10.heap.size w10 w11 by rw [hw11]; exact below_drewN' (Below.refl _ _) nq)
  have b11 := Lib.hid (b10.out.trans (q.mono b10.out.size))
  have JP11 := Lib.hid (JP10.out.kept q)
  have JB11 := Lib.hid (JB10.out.kept q)
  have KB11 := Lib.hid (KB10.out.kept q)
  clear q hw11 SE JP10 JB10 KB10 JC10 KC10
  obtain ⟨gb, go, hga, hgc⟩ := ints_cell (HG.out w11 b11.out).1.2.1 hgpos
  have HGC := Lib.hid (fun (w1 : World) (j : Nat) (hj : j < g.cl) (hb : Below w11.heap.size w11 w1) => cell_later hb (hgc j hj))
  have JP11' := JP11.out
  rw [hga] at JP11'
  obtain ⟨j0, j1, j2, j3, j4, j5, j6⟩ := JP11'.see
  clear JP11' hgc
  go_wp2_with fail
  clear j0 j1 j2 j3 j4 j5 j6
  go_loopw [9, 133] (fun t i wr => ∃ (j : Nat), j ≤ g.cl ∧ i = .int .i64 j ∧ Hid (wr.ownsRow w11.heap.size 2 1 t j ((g.cs.take j).map (Value.int .i64))) ∧ Hid (Below w11.heap.size w11 wr)) (fun _ i _ => g.cl - (intOf i).toNat)
  case atStart => exact ⟨0, Nat.zero_le _, rfl, Lib.hid (by rw [List.take_zero]; exact World.ownsRow_nil _ _ _ _), Lib.hid (Below.refl _ _)⟩
  case round =>
    obtain ⟨j, hj, rfl, hrow, hbr⟩ := hrel
    by_cases hlt : j < g.cl
    · have cy := HGC.out wr j hlt hbr.out
      have hst : g.cs.take (j + 1) = g.cs.take j ++ [g.cs.getD j 0] := by
        rw [List.take_add_one]
        simp [List.getD, List.getElem?_eq_getElem (show j < g.cs.length by rw [hcl9.out]; exact hlt)]
      obtain ⟨y, hy⟩ : ∃ y, g.cs.getD j 0 = y := ⟨_, rfl⟩
      rw [hy] at cy hst
      have HST := Lib.hid hst
      obtain ⟨L0, hL0⟩ : ∃ L, (g.cs.take j).map (Value.int .i64) = L := ⟨_, rfl⟩
      rw [hL0] at hrow
      have HL0 := Lib.hid hL0
      obtain ⟨s1, s2, s3, s4, s5, s6⟩ := snoc_of y hrow.out hbr.out (show j ≤ 1000 by omega)
      clear hst hy hL0
      go_wp2_with (at_builtin; refine wpList_append_own _ rfl _ _ 47 rfl w11.heap.size 2 i0 (.int .i64 0) 1 8 Try.underlying47 hi hz0 hz1 hz2 rfl (by decide) _ j _ rfl s1 ⟨_, 0, none⟩ 1 1 [.int .i64 y] rfl rfl s2 s3 s4 s5 s6 ?_)
      intro v' w5' hown hgrow hnil
      have hb5 := Lib.hid (snoc_below hrow.out hbr.out hgrow)
      rw [← HL0.out, ← snoc_int, ← HST.out] at hown
      have hown' := Lib.hid hown
      clear hown hgrow hnil s1 s2 s3 s4 s5 s6 cy
      go_wp2_with fail
      go_roundw
      case rel => exact ⟨j + 1, by omega, by go_num, hown', hb5⟩
      case measure => (simp [intOf]; try omega)
    · obtain rfl : j = g.cl := by omega
      have h1 := hrow.out
      rw [List.take_of_length_le (by rw [hcl9.out]; exact Nat.le_refl _)] at h1
      rcases Joins.ownsRow_forms hrow.out with ⟨e1, e2⟩ | ⟨rg, rc, e1⟩
      · omega
      subst e1
      have hrI := Lib.hid (row_ints h1 (by omega) (HG.out w11 b11.out).1.2.1.2.2.1)
      have b12 := Lib.hid (b11.out.trans (hbr.out.mono b11.out.size))
      have JP12 := Lib.hid (JP11.out.kept hbr.out)
      have JB12 := Lib.hid (JB11.out.kept hbr.out)
      have KB12 := Lib.hid (KB11.out.kept hbr.out)
      have SPC := Lib.hid (SP.out wr _ rc b12.out hrI.out)
      clear h1 hrow hbr hrI JP11 JB11 KB11 SP HGC hlt
      obtain ⟨j0, j1, j2, j3, j4, j5, j6⟩ := JP12.out.see
      go_wp2_with fail
      clear j0 j1 j2 j3 j4 j5 j6
      refine SPC.out.mono ?_
      rintro e w13 ⟨ua, uc, rfl, hui, hb13⟩
      have b13 := Lib.hid (b12.out.trans (hb13.mono b12.out.size))
      have JP13 := Lib.hid (JP12.out.kept hb13)
      have JB13 := Lib.hid (JB12.out.kept hb13)
      have KB13 := Lib.hid (KB12.out.kept hb13)
      have hui2 := Lib.hid hui
      have SE := same_any B.sa B.sl B.sc B.ss x.sa x.sl x.sc x.ss w13 KB13.out.1.1 (HX.out w13 b13.out).1.1
      rw [show B.ss = x.ss from congrArg Prod.fst hpB.out, sameL_self] at SE
      replace SE := Lib.hid SE
      clear hui hb13 SPC JP12 JB12 KB12
      obtain ⟨j0, j1, j2, j3, j4, j5, j6⟩ := JP13.out.see
      obtain ⟨c0, c1, -, -⟩ := JB13.out.see
      go_wp2_with fail
      clear j0 j1 j2 j3 j4 j5 j6 c0 c1
      refine SE.out.mono ?_
      rintro e w14 ⟨rfl, nq, hw14⟩
      have q := (show Below w13.heap.size w13 w14 by rw [hw14]; exact below_drewN' (Below.refl _ _) nq)
      have b14 := Lib.hid (b13.out.trans (q.mono b13.out.size))
      have JB14 := JB13.out.kept q
      have KB14 := Lib.hid (KB13.out.kept q)
      have hui14 := Lib.hid (hui2.out.kept q)
      have hBcs : B.cs = FL := congrArg Prod.snd hpB.out
      have hBcl : B.cl = x.cl := by have h1 := KB13.out.len; rw [hBcs, hFLl.out] at h1; exact h1.symm
      rw [hBcl] at JB14
      have KI := KB14.out.1.2.1
      rw [hBcs, hBcl] at KI
      replace KI := Lib.hid KI
      replace JB14 := Lib.hid JB14
      obtain ⟨N, hNN⟩ : ∃ N, x.cl = N := ⟨_, rfl⟩
      rw [hNN] at JB14 hui14 KI hxl ⊢
      clear q hw14 SE JP13 JB13 KB13 KB14 hBcs hBcl hui2
      obtain ⟨c0, c1, -, -⟩ := JB14.out.see
      go_wp2_with fail
      clear c0 c1
      go_loopw [174] (fun i wr => ∃ j : Nat, j ≤ N ∧ i = .int .i64 j ∧ Hid (Below w14.heap.size w14 wr)) (fun i _ => N - (intOf i).toNat)
      case atStart => exact ⟨0, Nat.zero_le _, rfl, Lib.hid (Below.refl _ _)⟩
      case round =>
        obtain ⟨j, hj, rfl, hbr⟩ := hrel
        by_cases hlt : j < N
        · obtain ⟨vb, vo, hva, hvc⟩ := ints_cell (KI.out.kept hbr.out) (by omega)
          obtain ⟨ub, uo, hua, huc⟩ := ints_cell (hui14.out.kept hbr.out) (by omega)
          have e1 := hvc j hlt
          have e2 := huc j hlt
          obtain ⟨v, hv⟩ : ∃ v, FL.getD j 0 = v := ⟨_, rfl⟩
          rw [hv] at e1 e2
          have HE1 := Lib.hid e1
          have HE2 := Lib.hid e2
          have JBr := JB14.out.kept hbr.out
          rw [hva] at JBr
          replace JBr := Lib.hid JBr
          subst hua
          clear e1 e2 hva hvc huc hv
          go_wp2_with fail
          have SK := Lib.hid (fun w' (hb : Below wr.heap.size wr w') => (show w'.cell? ⟨y6.heap.size, 1, none⟩ = some (.slice (some ⟨vb, vo, none⟩) N B.cc) ∧ w'.cell? ⟨vb, vo + j, none⟩ = some (.int .i64 v) ∧ w'.cell? ⟨ub, uo + j, none⟩ = some (.int .i64 v) from ⟨(JBr.out.kept hb).see.2.1, cell_later hb HE1.out, cell_later hb HE2.out⟩))
          have t1 := Lib.hid (show Below wr.heap.size wr wr.drew from (Below.refl _ _).drew)
          refine wp_region_held_drew (S := fun w' => w'.cell? ⟨y6.heap.size, 1, none⟩ = some (.slice (some ⟨vb, vo, none⟩) N B.cc) ∧ w'.cell? ⟨vb, vo + j, none⟩ = some (.int .i64 v) ∧ w'.cell? ⟨ub, uo + j, none⟩ = some (.int .i64 v)) (by kernel_rfl) (SK.out _ t1.out) (fun hHeld => ?_)
          refine held_take 0 (.pointer (some ⟨y6.heap.size, 1, none⟩)) rfl (by kernel_rfl) (by kernel_rfl) (by kernel_rfl) (fun _ _ _ h => h) (by rfl) (by intro w' hS; go_simp) (by assumption) ?_
          try simp only [Act.put, List.setIfInBounds_toArray, List.set_cons_zero, List.set_cons_succ]
          refine held_take 1 (.slice (some ⟨vb, vo, none⟩) N B.cc) rfl (by kernel_rfl) (by kernel_rfl) (by kernel_rfl) (fun _ _ _ h => h) (by rfl) (by intro w' hS; go_simp) (by assumption) ?_
          try simp only [Act.put, List.setIfInBounds_toArray, List.set_cons_zero, List.set_cons_succ]
          refine held_take 2 (.int .i64 j) rfl (by kernel_rfl) (by kernel_rfl) (by kernel_rfl) (fun _ _ _ h => h) (by rfl) (by intro w' hS; go_simp) (by assumption) ?_
          try simp only [Act.put, List.setIfInBounds_toArray, List.set_cons_zero, List.set_cons_succ]
          refine held_take 3 (.pointer (some ⟨vb, vo + j, none⟩)) rfl (by kernel_rfl) (by kernel_rfl) (by kernel_rfl) (fun _ _ _ h => h) (by rfl) (by intro w' hS; go_simp) (by assumption) ?_
          try simp only [Act.put, List.setIfInBounds_toArray, List.set_cons_zero, List.set_cons_succ]
          refine held_take 4 (.int .i64 v) rfl (by kernel_rfl) (by kernel_rfl) (by kernel_rfl) (fun _ _ _ h => h) (by rfl) (by intro w' hS; go_simp) (by assumption) ?_
          try simp only [Act.put, List.setIfInBounds_toArray, List.set_cons_zero, List.set_cons_succ]
          refine held_take 5 (.slice (some ⟨ub, uo, none⟩) N uc) rfl (by kernel_rfl) (by kernel_rfl) (by kernel_rfl) (fun _ _ _ h => h) (by rfl) (by intro w' hS; go_simp) (by assumption) ?_
          try simp only [Act.put, List.setIfInBounds_toArray, List.set_cons_zero, List.set_cons_succ]
          refine held_take 6 (.int .i64 j) rfl (by kernel_rfl) (by kernel_rfl) (by kernel_rfl) (fun _ _ _ h => h) (by rfl) (by intro w' hS; go_simp) (by assumption) ?_
          try simp only [Act.put, List.setIfInBounds_toArray, List.set_cons_zero, List.set_cons_succ]
          refine held_take 7 (.pointer (some ⟨ub, uo + j, none⟩)) rfl (by kernel_rfl) (by kernel_rfl) (by kernel_rfl) (fun _ _ _ h => h) (by rfl) (by intro w' hS; go_simp) (by assumption) ?_
          try simp only [Act.put, List.setIfInBounds_toArray, List.set_cons_zero, List.set_cons_succ]
          refine held_take 8 (.int .i64 v) rfl (by kernel_rfl) (by kernel_rfl) (by kernel_rfl) (fun _ _ _ h => h) (by rfl) (by intro w' hS; go_simp) (by assumption) ?_
          try simp only [Act.put, List.setIfInBounds_toArray, List.set_cons_zero, List.set_cons_succ]
          refine held_take 9 (.bool false) rfl (by kernel_rfl) (by kernel_rfl) (by kernel_rfl) (fun _ _ _ h => h) (by rfl) (by intro w' hS; go_simp) (by assumption) ?_
          try simp only [Act.put, List.setIfInBounds_toArray, List.set_cons_zero, List.set_cons_succ]
          refine wpAnyH_done (by kernel_rfl) ?_ _
          have b15 := Lib.hid (hbr.out.trans (t1.out.mono hbr.out.size))
          clear SK t1 HE1 HE2 JBr
          go_wp2_with fail
          go_roundw
          case rel => exact ⟨j + 1, by omega, by go_num, b15⟩
          case measure => (simp [intOf]; try omega)
        · obtain rfl : j = N := by omega
          have b15 := Lib.hid (b14.out.trans (hbr.out.mono b14.out.size))
          clear hbr
          go_wp2_with fail
          refine (awake09_any _).mono ?_
          rintro e w20 ⟨rfl, hb20⟩
          have b20 := Lib.hid (b15.out.trans (hb20.mono b15.out.size))
          clear hb20
          go_wp2_with fail
          go_ret
          exact ⟨rfl, b20.out⟩

theorem moveCuts_walk (x g : TV) (sd fr tt : Int) (w : World) (h : Good x w ∧ Good g w) :
    Calls Try.prog 5 #[.agg #[.slice x.sa x.sl x.sc, .slice x.ca x.cl x.cc, .slice g.sa g.sl g.sc, .slice g.ca g.cl g.cc, .int .i64 sd, .int .i64 fr, .int .i64 tt]] w fun e w' => e = .returned (.bool true) ∧ Below w.heap.size w w' := by
  obtain ⟨hx, hg⟩ := h
  cases hs : small9 [x, g]
  · exact mcuts_big x g sd fr tt w hx hg hs
  by_cases hE : (cutR (pr x) sd fr tt).1 = 0
  case neg => exact mcuts_err x g sd fr tt w hx hg hs hE
  obtain ⟨k, n, P, M, a, b, rfl, rfl, rfl, hxo, hN, hft, htn⟩ := cut_good hE
  cases hq : rightT g.ss g.cl
  · exact mcuts_bad1 x g k n P M a b w hx hg hs hN hxo hft htn hq
  cases hq2 : sameL g.ss (cutR (pr x) k a b).2.1
  · exact mcuts_bad2 x g k n P M a b w hx hg hs hN hxo hft htn hq hq2
  · exact mcuts_ok x g k n P M a b w hx hg hs hN hxo hft htn hq hq2
end Go.Proofs.Ytieegaojcjhfdaa

