import Derived.Test.YtieegaojcjhfdaaJ05
import Derived.Test.YtieegaojcjhfdaaJ06
/-
  The walk of the statement MoveParts.
-/
namespace Go.Proofs.Ytieegaojcjhfdaa
open Go.RowKit
set_option linter.unusedVariables false
set_option linter.unusedSimpArgs false

theorem small9_one (g : TV) (w1 : World) (hG : Good g w1) : ∃ r1, Hid (w1.alloc (.cells #[.slice g.sa g.sl g.sc, .slice g.ca g.cl g.cc] 29) = r1) ∧ Hid (Below w1.heap.size w1 r1) ∧ Calls Try.prog 8 #[.slice (some ⟨w1.heap.size, 0, none⟩) 1 1] r1 (fun e w' => e = .returned (.bool (small9 [g])) ∧ Below r1.heap.size r1 w') := by
  obtain ⟨r1, hr1, gs1, zr1⟩ := gsl_made1 w1 g hG
  exact ⟨r1, hr1, zr1, small9_any _ 1 1 _ r1 gs1.out.at_⟩

set_option maxRecDepth 100000 in
set_option maxHeartbeats 4000000 in
theorem parts_big1 (side : Int) (g : TV) (a : Option Addr) (len cap : Nat) (ts : List TV) (w : World) (hg : Good g w) (h : Gsl w a len cap ts) (hs : small9 ts = false) :
    Calls Try.prog 4 #[.int .i64 side, .agg #[.slice g.sa g.sl g.sc, .slice g.ca g.cl g.cc], .slice a len cap] w fun e w' => e = .returned (.bool true) ∧ Below w.heap.size w w' := by
  obtain ⟨wA, hwA, J, z, n1⟩ := grid_box w (.slice g.sa g.sl g.sc) (.slice g.ca g.cl g.cc)
  have SM := small9_any a len cap ts wA (h.kept z.out).at_
  have HG := Lib.hid (fun w1 (hb : Below w.heap.size w w1) => hg.kept hb)
  have SG := fun w1 (hG : Good g w1) => small9_one g w1 hG
  rw [hs] at SM
  have SM1 := Lib.hid SM
  clear SM SG hs h hg
  go_enter Try.func4, Try.ntmps4
  go_upto_region 1 with (fail)
  rw [hwA.out]
  go_wp2_with fail
  refine SM1.out.mono ?_
  rintro e w1 ⟨rfl, hb1⟩
  have b1 := Lib.hid (z.out.trans (hb1.mono z.out.size))
  have JG := Lib.hid (J.out.kept hb1)
  clear hb1 SM1 J z
  go_wp2_with fail
  refine (awake09_any _).mono ?_
  rintro e w20 ⟨rfl, hb20⟩
  have b20 := Lib.hid (b1.out.trans (hb20.mono b1.out.size))
  clear hb20
  go_wp2_with fail
  go_ret
  exact ⟨rfl, b20.out⟩

set_option maxRecDepth 100000 in
set_option maxHeartbeats 4000000 in
theorem parts_big2 (side : Int) (g : TV) (a : Option Addr) (len cap : Nat) (ts : List TV) (w : World) (hg : Good g w) (h : Gsl w a len cap ts) (hs : small9 ts = true) (hs2 : small9 [g] = false) :
    Calls Try.prog 4 #[.int .i64 side, .agg #[.slice g.sa g.sl g.sc, .slice g.ca g.cl g.cc], .slice a len cap] w fun e w' => e = .returned (.bool true) ∧ Below w.heap.size w w' := by
  obtain ⟨wA, hwA, J, z, n1⟩ := grid_box w (.slice g.sa g.sl g.sc) (.slice g.ca g.cl g.cc)
  have SM := small9_any a len cap ts wA (h.kept z.out).at_
  have HG := Lib.hid (fun w1 (hb : Below w.heap.size w w1) => hg.kept hb)
  have SG := fun w1 (hG : Good g w1) => small9_one g w1 hG
  rw [hs] at SM
  simp only [hs2] at SG
  have SM1 := Lib.hid SM
  have SG1 := Lib.hid SG
  clear SM SG hs hs2 h hg
  go_enter Try.func4, Try.ntmps4
  go_upto_region 1 with (fail)
  rw [hwA.out]
  go_wp2_with fail
  refine SM1.out.mono ?_
  rintro e w1 ⟨rfl, hb1⟩
  have b1 := Lib.hid (z.out.trans (hb1.mono z.out.size))
  have JG := Lib.hid (J.out.kept hb1)
  clear hb1 SM1 J z
  obtain ⟨r1, hr1, zr1, SC⟩ := SG1.out w1 (HG.out w1 b1.out)
  have SC1 := Lib.hid SC
  clear SC
  obtain ⟨j0, j1, -, -⟩ := JG.out.see
  have hr1' := hr1.out
  go_wp2_with fail
  clear hr1' j0 j1
  refine SC1.out.mono ?_
  rintro e w2 ⟨rfl, hb2⟩
  have q := zr1.out.trans (hb2.mono zr1.out.size)
  have b2 := Lib.hid (b1.out.trans (q.mono b1.out.size))
  have JG2 := Lib.hid (JG.out.kept q)
  clear hb2 q SC1 hr1 zr1 JG
  go_wp2_with fail
  refine (awake09_any _).mono ?_
  rintro e w20 ⟨rfl, hb20⟩
  have b20 := Lib.hid (b2.out.trans (hb20.mono b2.out.size))
  clear hb20
  go_wp2_with fail
  go_ret
  exact ⟨rfl, b20.out⟩

set_option maxRecDepth 100000 in
set_option maxHeartbeats 4000000 in
theorem parts_long (side : Int) (g : TV) (a : Option Addr) (len cap : Nat) (ts : List TV) (w : World) (hg : Good g w) (h : Gsl w a len cap ts) (hs : small9 ts = true) (hs2 : small9 [g] = true) (hl : 12 < len) :
    Calls Try.prog 4 #[.int .i64 side, .agg #[.slice g.sa g.sl g.sc, .slice g.ca g.cl g.cc], .slice a len cap] w fun e w' => e = .returned (.bool true) ∧ Below w.heap.size w w' := by
  obtain ⟨wA, hwA, J, z, n1⟩ := grid_box w (.slice g.sa g.sl g.sc) (.slice g.ca g.cl g.cc)
  have SM := small9_any a len cap ts wA (h.kept z.out).at_
  have HG := Lib.hid (fun w1 (hb : Below w.heap.size w w1) => hg.kept hb)
  have SG := fun w1 (hG : Good g w1) => small9_one g w1 hG
  rw [hs] at SM
  simp only [hs2] at SG
  have SM1 := Lib.hid SM
  have SG1 := Lib.hid SG
  have d12 : (12 : Int) < (len : Int) := by omega
  clear SM SG hs hs2 h hg hl
  go_enter Try.func4, Try.ntmps4
  go_upto_region 1 with (fail)
  rw [hwA.out]
  go_wp2_with fail
  refine SM1.out.mono ?_
  rintro e w1 ⟨rfl, hb1⟩
  have b1 := Lib.hid (z.out.trans (hb1.mono z.out.size))
  have JG := Lib.hid (J.out.kept hb1)
  clear hb1 SM1 J z
  obtain ⟨r1, hr1, zr1, SC⟩ := SG1.out w1 (HG.out w1 b1.out)
  have SC1 := Lib.hid SC
  clear SC
  obtain ⟨j0, j1, -, -⟩ := JG.out.see
  have hr1' := hr1.out
  go_wp2_with fail
  clear hr1' j0 j1
  refine SC1.out.mono ?_
  rintro e w2 ⟨rfl, hb2⟩
  have q := zr1.out.trans (hb2.mono zr1.out.size)
  have b2 := Lib.hid (b1.out.trans (q.mono b1.out.size))
  have JG2 := Lib.hid (JG.out.kept q)
  clear hb2 q SC1 hr1 zr1 JG
  go_wp2_with fail
  refine (awake09_any _).mono ?_
  rintro e w20 ⟨rfl, hb20⟩
  have b20 := Lib.hid (b2.out.trans (hb20.mono b2.out.size))
  clear hb20
  go_wp2_with fail
  go_ret
  exact ⟨rfl, b20.out⟩

set_option maxRecDepth 100000 in
set_option maxHeartbeats 8000000 in
theorem parts_err (side : Int) (g : TV) (a : Option Addr) (len cap : Nat) (ts : List TV) (w : World) (hg : Good g w) (h : Gsl w a len cap ts) (hs : small9 ts = true) (hs2 : small9 [g] = true) (hl : len ≤ 12) (hE : (mjoinR side (ts.map pr)).1 ≠ 0) :
    Calls Try.prog 4 #[.int .i64 side, .agg #[.slice g.sa g.sl g.sc, .slice g.ca g.cl g.cc], .slice a len cap] w fun e w' => e = .returned (.bool true) ∧ Below w.heap.size w w' := by
  obtain ⟨wA, hwA, J, z, n1⟩ := grid_box w (.slice g.sa g.sl g.sc) (.slice g.ca g.cl g.cc)
  have SM := small9_any a len cap ts wA (h.kept z.out).at_
  have HG := Lib.hid (fun w1 (hb : Below w.heap.size w w1) => hg.kept hb)
  have SG := fun w1 (hG : Good g w1) => small9_one g w1 hG
  rw [hs] at SM
  simp only [hs2] at SG
  have hsum : (ts.map fun t => t.cl).sum ≤ 1000 := Nat.le_trans (wtsM_cl _) (Nat.le_trans (small9_le hs) (by decide))
  have hgl : g.cl ≤ 1000 := by have h1 := small9_le hs2; have h2 := wtsM_mem (t := g) (ts := [g]) (by simp); omega
  have MJ := fun w1 (hb : Below w.heap.size w w1) => mjoin_any side a len cap ts w1 (h.kept hb) hsum
  have JB := fun w1 (hb : Below w.heap.size w w1) => jback_any side g a len cap ts w1 (h.kept hb) (by omega) (hg.kept hb) hsum hgl
  have d12 : ¬ (12 : Int) < (len : Int) := by omega
  have eJ : jbackR side (pr g) (ts.map pr) = ((mjoinR side (ts.map pr)).1, []) := by unfold jbackR; rw [if_pos hE]
  rw [eJ] at JB
  obtain ⟨r, hr⟩ : ∃ r, mjoinR side (ts.map pr) = r := ⟨_, rfl⟩
  rw [hr] at MJ JB hE
  obtain ⟨x1, p1⟩ := r
  have dx : (x1 != 0) = true := bne_iff_ne.2 hE
  replace MJ := Lib.hid MJ
  replace JB := Lib.hid JB
  have SM1 := Lib.hid SM
  have SG1 := Lib.hid SG
  clear SM SG hs hs2 h hg hl hsum hgl eJ hr hE
  go_enter Try.func4, Try.ntmps4
  go_upto_region 1 with (fail)
  rw [hwA.out]
  go_wp2_with fail
  refine SM1.out.mono ?_
  rintro e w1 ⟨rfl, hb1⟩
  have b1 := Lib.hid (z.out.trans (hb1.mono z.out.size))
  have JG := Lib.hid (J.out.kept hb1)
  clear hb1 SM1 J z
  obtain ⟨r1, hr1, zr1, SC⟩ := SG1.out w1 (HG.out w1 b1.out)
  have SC1 := Lib.hid SC
  clear SC
  obtain ⟨j0, j1, -, -⟩ := JG.out.see
  have hr1' := hr1.out
  go_wp2_with fail
  clear hr1' j0 j1
  refine SC1.out.mono ?_
  rintro e w2 ⟨rfl, hb2⟩
  have q := zr1.out.trans (hb2.mono zr1.out.size)
  have b2 := Lib.hid (b1.out.trans (q.mono b1.out.size))
  have JG2 := Lib.hid (JG.out.kept q)
  clear hb2 q SC1 hr1 zr1 JG
  go_wp2_with fail
  refine (MJ.out w2 b2.out).mono ?_
  rintro e w3 ⟨O, rfl, hpO, hGO, -, hb3⟩
  obtain ⟨w4, hw4, JO, zx, nO⟩ := grid_box w3 (.slice O.sa O.sl O.sc) (.slice O.ca O.cl O.cc)
  have q := hb3.trans (zx.out.mono hb3.size)
  have b4 := Lib.hid (b2.out.trans (q.mono b2.out.size))
  have JG4 := Lib.hid (JG2.out.kept q)
  have KO := Lib.hid (hGO.kept zx.out)
  have hpO2 := Lib.hid hpO
  clear hpO hGO hb3 q zx MJ JG2
  go_upto_region 4 with (fail)
  rw [hw4.out]
  obtain ⟨j0, j1, -, -⟩ := JG4.out.see
  go_wp2_with fail
  clear j0 j1
  refine (JB.out w4 b4.out).mono ?_
  rintro e w5 ⟨pa, pn, pc, us, rfl, hus, hgs, hb5⟩
  have b5 := Lib.hid (b4.out.trans (hb5.mono b4.out.size))
  have JG5 := Lib.hid (JG4.out.kept hb5)
  have JO5 := Lib.hid (JO.out.kept hb5)
  have KO5 := Lib.hid (KO.out.kept hb5)
  clear hb5 JB JG4 JO KO
  have hl0 : pn = 0 := by
    have e1 := hgs.len
    have e2 := congrArg List.length hus
    simp at e2
    rw [e2] at e1
    simpa using e1.symm
  subst hl0
  clear hus hgs
  clear JO5 JG5 KO5
  go_wp2_with fail
  refine (awake09_any _).mono ?_
  rintro e w20 ⟨rfl, hb20⟩
  have b20 := Lib.hid (b5.out.trans (hb20.mono b5.out.size))
  clear hb20
  go_wp2_with fail
  go_ret
  exact ⟨rfl, b20.out⟩

set_option maxRecDepth 100000 in
set_option maxHeartbeats 8000000 in
theorem parts_bad1 (side : Int) (g : TV) (a : Option Addr) (len cap : Nat) (ts : List TV) (w : World) (hg : Good g w) (h : Gsl w a len cap ts) (hs : small9 ts = true) (hs2 : small9 [g] = true) (hl : len ≤ 12) (hE : (mjoinR side (ts.map pr)).1 = 0) (hq : rightT g.ss g.cl = false) :
    Calls Try.prog 4 #[.int .i64 side, .agg #[.slice g.sa g.sl g.sc, .slice g.ca g.cl g.cc], .slice a len cap] w fun e w' => e = .returned (.bool true) ∧ Below w.heap.size w w' := by
  obtain ⟨wA, hwA, J, z, n1⟩ := grid_box w (.slice g.sa g.sl g.sc) (.slice g.ca g.cl g.cc)
  have SM := small9_any a len cap ts wA (h.kept z.out).at_
  have HG := Lib.hid (fun w1 (hb : Below w.heap.size w w1) => hg.kept hb)
  have SG := fun w1 (hG : Good g w1) => small9_one g w1 hG
  rw [hs] at SM
  simp only [hs2] at SG
  have hsum : (ts.map fun t => t.cl).sum ≤ 1000 := Nat.le_trans (wtsM_cl _) (Nat.le_trans (small9_le hs) (by decide))
  have hgl : g.cl ≤ 1000 := by have h1 := small9_le hs2; have h2 := wtsM_mem (t := g) (ts := [g]) (by simp); omega
  have MJ := fun w1 (hb : Below w.heap.size w w1) => mjoin_any side a len cap ts w1 (h.kept hb) hsum
  have JB := fun w1 (hb : Below w.heap.size w w1) => jback_any side g a len cap ts w1 (h.kept hb) (by omega) (hg.kept hb) hsum hgl
  have d12 : ¬ (12 : Int) < (len : Int) := by omega
  have hN : (okP (pr g) && sameL g.ss (mjoinR side (ts.map pr)).2.1) = false := by rw [hg.ok, hq]; rfl
  have hjb : jbackR side (pr g) (ts.map pr) = (20, []) := by unfold jbackR; rw [if_neg (by simpa using hE), if_pos (by exact hN)]
  rw [hjb] at JB
  obtain ⟨r, hr⟩ : ∃ r, mjoinR side (ts.map pr) = r := ⟨_, rfl⟩
  rw [hr] at MJ hE hN
  obtain ⟨x1, p1⟩ := r
  obtain rfl : x1 = 0 := hE
  replace MJ := Lib.hid MJ
  replace JB := Lib.hid JB
  have SM1 := Lib.hid SM
  have SG1 := Lib.hid SG
  have RG := fun w1 (hb : Below w.heap.size w w1) => right9_any g.sa g.sl g.sc g.ss g.ca g.cl g.cc w1 (hg.kept hb).1.1 (by omega)
  rw [hq] at RG
  replace RG := Lib.hid RG
  clear SM SG hs hs2 h hg hl hsum hgl hjb hr hN hq
  go_enter Try.func4, Try.ntmps4
  go_upto_region 1 with (fail)
  rw [hwA.out]
  go_wp2_with fail
  refine SM1.out.mono ?_
  rintro e w1 ⟨rfl, hb1⟩
  have b1 := Lib.hid (z.out.trans (hb1.mono z.out.size))
  have JG := Lib.hid (J.out.kept hb1)
  clear hb1 SM1 J z
  obtain ⟨r1, hr1, zr1, SC⟩ := SG1.out w1 (HG.out w1 b1.out)
  have SC1 := Lib.hid SC
  clear SC
  obtain ⟨j0, j1, -, -⟩ := JG.out.see
  have hr1' := hr1.out
  go_wp2_with fail
  clear hr1' j0 j1
  refine SC1.out.mono ?_
  rintro e w2 ⟨rfl, hb2⟩
  have q := zr1.out.trans (hb2.mono zr1.out.size)
  have b2 := Lib.hid (b1.out.trans (q.mono b1.out.size))
  have JG2 := Lib.hid (JG.out.kept q)
  clear hb2 q SC1 hr1 zr1 JG
  go_wp2_with fail
  refine (MJ.out w2 b2.out).mono ?_
  rintro e w3 ⟨O, rfl, hpO, hGO, -, hb3⟩
  obtain ⟨w4, hw4, JO, zx, nO⟩ := grid_box w3 (.slice O.sa O.sl O.sc) (.slice O.ca O.cl O.cc)
  have q := hb3.trans (zx.out.mono hb3.size)
  have b4 := Lib.hid (b2.out.trans (q.mono b2.out.size))
  have JG4 := Lib.hid (JG2.out.kept q)
  have KO := Lib.hid (hGO.kept zx.out)
  have hpO2 := Lib.hid hpO
  clear hpO hGO hb3 q zx MJ JG2
  go_upto_region 4 with (fail)
  rw [hw4.out]
  obtain ⟨j0, j1, -, -⟩ := JG4.out.see
  go_wp2_with fail
  clear j0 j1
  refine (JB.out w4 b4.out).mono ?_
  rintro e w5 ⟨pa, pn, pc, us, rfl, hus, hgs, hb5⟩
  have b5 := Lib.hid (b4.out.trans (hb5.mono b4.out.size))
  have JG5 := Lib.hid (JG4.out.kept hb5)
  have JO5 := Lib.hid (JO.out.kept hb5)
  have KO5 := Lib.hid (KO.out.kept hb5)
  clear hb5 JB JG4 JO KO
  have hl0 : pn = 0 := by
    have e1 := hgs.len
    have e2 := congrArg List.length hus
    simp at e2
    rw [e2] at e1
    simpa using e1.symm
  subst hl0
  clear hus hgs
  obtain ⟨j0, j1, -, -⟩ := JG5.out.see
  go_wp2_with fail
  clear j0 j1
  refine (RG.out w5 b5.out).mono ?_
  rintro e w6 ⟨rfl, hb6⟩
  have b6 := Lib.hid (b5.out.trans (hb6.mono b5.out.size))
  clear hb6
  go_wp2_with fail
  refine (awake09_any _).mono ?_
  rintro e w20 ⟨rfl, hb20⟩
  have b20 := Lib.hid (b6.out.trans (hb20.mono b6.out.size))
  clear hb20
  go_wp2_with fail
  go_ret
  exact ⟨rfl, b20.out⟩

set_option maxRecDepth 100000 in
set_option maxHeartbeats 8000000 in
theorem parts_bad2 (side : Int) (g : TV) (a : Option Addr) (len cap : Nat) (ts : List TV) (w : World) (hg : Good g w) (h : Gsl w a len cap ts) (hs : small9 ts = true) (hs2 : small9 [g] = true) (hl : len ≤ 12) (hE : (mjoinR side (ts.map pr)).1 = 0) (hq : rightT g.ss g.cl = true) (hq2 : sameL g.ss (mjoinR side (ts.map pr)).2.1 = false) :
    Calls Try.prog 4 #[.int .i64 side, .agg #[.slice g.sa g.sl g.sc, .slice g.ca g.cl g.cc], .slice a len cap] w fun e w' => e = .returned (.bool true) ∧ Below w.heap.size w w' := by
  obtain ⟨wA, hwA, J, z, n1⟩ := grid_box w (.slice g.sa g.sl g.sc) (.slice g.ca g.cl g.cc)
  have SM := small9_any a len cap ts wA (h.kept z.out).at_
  have HG := Lib.hid (fun w1 (hb : Below w.heap.size w w1) => hg.kept hb)
  have SG := fun w1 (hG : Good g w1) => small9_one g w1 hG
  rw [hs] at SM
  simp only [hs2] at SG
  have hsum : (ts.map fun t => t.cl).sum ≤ 1000 := Nat.le_trans (wtsM_cl _) (Nat.le_trans (small9_le hs) (by decide))
  have hgl : g.cl ≤ 1000 := by have h1 := small9_le hs2; have h2 := wtsM_mem (t := g) (ts := [g]) (by simp); omega
  have MJ := fun w1 (hb : Below w.heap.size w w1) => mjoin_any side a len cap ts w1 (h.kept hb) hsum
  have JB := fun w1 (hb : Below w.heap.size w w1) => jback_any side g a len cap ts w1 (h.kept hb) (by omega) (hg.kept hb) hsum hgl
  have d12 : ¬ (12 : Int) < (len : Int) := by omega
  have hN : (okP (pr g) && sameL g.ss (mjoinR side (ts.map pr)).2.1) = false := by rw [hq2, Bool.and_false]
  have hjb : jbackR side (pr g) (ts.map pr) = (20, []) := by unfold jbackR; rw [if_neg (by simpa using hE), if_pos (by exact hN)]
  rw [hjb] at JB
  obtain ⟨r, hr⟩ : ∃ r, mjoinR side (ts.map pr) = r := ⟨_, rfl⟩
  rw [hr] at MJ hE hN hq2
  obtain ⟨x1, p1⟩ := r
  obtain rfl : x1 = 0 := hE
  replace MJ := Lib.hid MJ
  replace JB := Lib.hid JB
  have SM1 := Lib.hid SM
  have SG1 := Lib.hid SG
  have RG := fun w1 (hb : Below w.heap.size w w1) => right9_any g.sa g.sl g.sc g.ss g.ca g.cl g.cc w1 (hg.kept hb).1.1 (by omega)
  rw [hq] at RG
  replace RG := Lib.hid RG
  have HQ2 := Lib.hid (show sameL g.ss p1.1 = false from hq2)
  clear SM SG hs hs2 h hg hl hsum hgl hjb hr hN hq hq2
  go_enter Try.func4, Try.ntmps4
  go_upto_region 1 with (fail)
  rw [hwA.out]
  go_wp2_with fail
  refine SM1.out.mono ?_
  rintro e w1 ⟨rfl, hb1⟩
  have b1 := Lib.hid (z.out.trans (hb1.mono z.out.size))
  have JG := Lib.hid (J.out.kept hb1)
  clear hb1 SM1 J z
  obtain ⟨r1, hr1, zr1, SC⟩ := SG1.out w1 (HG.out w1 b1.out)
  have SC1 := Lib.hid SC
  clear SC
  obtain ⟨j0, j1, -, -⟩ := JG.out.see
  have hr1' := hr1.out
  go_wp2_with fail
  clear hr1' j0 j1
  refine SC1.out.mono ?_
  rintro e w2 ⟨rfl, hb2⟩
  have q := zr1.out.trans (hb2.mono zr1.out.size)
  have b2 := Lib.hid (b1.out.trans (q.mono b1.out.size))
  have JG2 := Lib.hid (JG.out.kept q)
  clear hb2 q SC1 hr1 zr1 JG
  go_wp2_with fail
  refine (MJ.out w2 b2.out).mono ?_
  rintro e w3 ⟨O, rfl, hpO, hGO, -, hb3⟩
  obtain ⟨w4, hw4, JO, zx, nO⟩ := grid_box w3 (.slice O.sa O.sl O.sc) (.slice O.ca O.cl O.cc)
  have q := hb3.trans (zx.out.mono hb3.size)
  have b4 := Lib.hid (b2.out.trans (q.mono b2.out.size))
  have JG4 := Lib.hid (JG2.out.kept q)
  have KO := Lib.hid (hGO.kept zx.out)
  have hpO2 := Lib.hid hpO
  clear hpO hGO hb3 q zx MJ JG2
  go_upto_region 4 with (fail)
  rw [hw4.out]
  obtain ⟨j0, j1, -, -⟩ := JG4.out.see
  go_wp2_with fail
  clear j0 j1
  refine (JB.out w4 b4.out).mono ?_
  rintro e w5 ⟨pa, pn, pc, us, rfl, hus, hgs, hb5⟩
  have b5 := Lib.hid (b4.out.trans (hb5.mono b4.out.size))
  have JG5 := Lib.hid (JG4.out.kept hb5)
  have JO5 := Lib.hid (JO.out.kept hb5)
  have KO5 := Lib.hid (KO.out.kept hb5)
  clear hb5 JB JG4 JO KO
  have hl0 : pn = 0 := by
    have e1 := hgs.len
    have e2 := congrArg List.length hus
    simp at e2
    rw [e2] at e1
    simpa using e1.symm
  subst hl0
  clear hus hgs
  obtain ⟨j0, j1, -, -⟩ := JG5.out.see
  go_wp2_with fail
  clear j0 j1
  refine (RG.out w5 b5.out).mono ?_
  rintro e w6 ⟨rfl, hb6⟩
  have b6 := Lib.hid (b5.out.trans (hb6.mono b5.out.size))
  have JG6 := Lib.hid (JG5.out.kept hb6)
  have JO6 := Lib.hid (JO5.out.kept hb6)
  have SE := same_any g.sa g.sl g.sc g.ss O.sa O.sl O.sc O.ss w6 (HG.out w6 b6.out).1.1 (KO5.out.kept hb6).1.1
  rw [show O.ss = p1.1 from congrArg Prod.fst hpO2.out] at SE
  rw [HQ2.out] at SE
  replace SE := Lib.hid SE
  obtain ⟨j0, j1, -, -⟩ := JG6.out.see
  obtain ⟨o0, o1, -, -⟩ := JO6.out.see
  clear hb6 JG5 JO5
  go_wp2_with fail
  clear j0 j1 o0 o1
  refine SE.out.mono ?_
  rintro e w7 ⟨rfl, nq, rfl⟩
  have b7 := Lib.hid (below_drewN' b6.out nq)
  have JG7 := Lib.hid (JG6.out.kept (below_drewN' (Below.refl w6.heap.size w6) nq))
  clear SE JG6 JO6
  clear JG7
  go_wp2_with fail
  refine (awake09_any _).mono ?_
  rintro e w20 ⟨rfl, hb20⟩
  have b20 := Lib.hid (b7.out.trans (hb20.mono b7.out.size))
  clear hb20
  go_wp2_with fail
  go_ret
  exact ⟨rfl, b20.out⟩

set_option maxRecDepth 100000 in
set_option maxHeartbeats 16000000 in
theorem parts_ok (side : Int) (g : TV) (b off len cap : Nat) (ts : List TV) (w : World) (hg : Good g w) (h : Gsl w (some ⟨b, off, none⟩) len cap ts) (hs : small9 ts = true) (hs2 : small9 [g] = true) (hl : len ≤ 12) (h0 : 0 < len) (hE : (mjoinR side (ts.map pr)).1 = 0) (hq : rightT g.ss g.cl = true) (hq2 : sameL g.ss (mjoinR side (ts.map pr)).2.1 = true) :
    Calls Try.prog 4 #[.int .i64 side, .agg #[.slice g.sa g.sl g.sc, .slice g.ca g.cl g.cc], .slice (some ⟨b, off, none⟩) len cap] w fun e w' => e = .returned (.bool true) ∧ Below w.heap.size w w' := by
  obtain ⟨wA, hwA, J, z, n1⟩ := grid_box w (.slice g.sa g.sl g.sc) (.slice g.ca g.cl g.cc)
  have SM := small9_any _ len cap ts wA (h.kept z.out).at_
  have HG := Lib.hid (fun w1 (hb : Below w.heap.size w w1) => hg.kept hb)
  have SG := fun w1 (hG : Good g w1) => small9_one g w1 hG
  rw [hs] at SM
  simp only [hs2] at SG
  have hsum : (ts.map fun t => t.cl).sum ≤ 1000 := Nat.le_trans (wtsM_cl _) (Nat.le_trans (small9_le hs) (by decide))
  have hgl : g.cl ≤ 1000 := by have h1 := small9_le hs2; have h2 := wtsM_mem (t := g) (ts := [g]) (by simp); omega
  have MJ := fun w1 (hb : Below w.heap.size w w1) => mjoin_any side _ len cap ts w1 (h.kept hb) hsum
  have JB := fun w1 (hb : Below w.heap.size w w1) => jback_any side g _ len cap ts w1 (h.kept hb) (by omega) (hg.kept hb) hsum hgl
  have d12 : ¬ (12 : Int) < (len : Int) := by omega
  have hN : ¬ (okP (pr g) && sameL g.ss (mjoinR side (ts.map pr)).2.1) = false := by rw [hg.ok, hq, hq2]; decide
  have hjb : jbackR side (pr g) (ts.map pr) = (0, partsR (pr g) side.toNat 0 (ts.map pr)) := by unfold jbackR; rw [if_neg (by simpa using hE), if_neg (by exact hN)]
  have hok : okP (pr g) = true := by rw [hg.ok]; exact hq
  have PJ := parts_join hE hok (sameL_eq hq2)
  have PS := parts_shape hE hok (sameL_eq hq2)
  have PL := partsR_length (pr g) side.toNat (ts.map pr) 0
  obtain ⟨PP, hPP⟩ : ∃ PP, partsR (pr g) side.toNat 0 (ts.map pr) = PP := ⟨_, rfl⟩
  rw [hPP] at hjb PJ PS PL
  have hPsum : (PP.map fun q => q.2.length).sum ≤ 1000 := by
    rw [mjoin_sum (side := side) (l := PP) (by rw [PJ]), PJ]
    show g.cs.length ≤ 1000
    rw [hg.len]
    exact hgl
  rw [hjb] at JB
  obtain ⟨r, hr⟩ : ∃ r, mjoinR side (ts.map pr) = r := ⟨_, rfl⟩
  rw [hr] at MJ hE hq2
  obtain ⟨x1, p1⟩ := r
  obtain rfl : x1 = 0 := hE
  replace MJ := Lib.hid MJ
  replace JB := Lib.hid JB
  have SM1 := Lib.hid SM
  have SG1 := Lib.hid SG
  have RG := fun w1 (hb : Below w.heap.size w w1) => right9_any g.sa g.sl g.sc g.ss g.ca g.cl g.cc w1 (hg.kept hb).1.1 (by omega)
  rw [hq] at RG
  replace RG := Lib.hid RG
  have HQ2 := Lib.hid (show sameL g.ss p1.1 = true from hq2)
  have HT := Lib.hid (fun w1 (hb : Below w.heap.size w w1) => h.kept hb)
  have HPJ := Lib.hid PJ
  have HPS := Lib.hid PS
  have HPL := Lib.hid PL
  have HPM := Lib.hid hPsum
  have htl := Lib.hid h.len
  clear SM SG hs hs2 h hg hl hsum hgl hjb hr hN hq hq2 hok PJ PS PL hPP hPsum
  go_enter Try.func4, Try.ntmps4
  go_upto_region 1 with (fail)
  rw [hwA.out]
  go_wp2_with fail
  refine SM1.out.mono ?_
  rintro e w1 ⟨rfl, hb1⟩
  have b1 := Lib.hid (z.out.trans (hb1.mono z.out.size))
  have JG := Lib.hid (J.out.kept hb1)
  clear hb1 SM1 J z
  obtain ⟨r1, hr1, zr1, SC⟩ := SG1.out w1 (HG.out w1 b1.out)
  have SC1 := Lib.hid SC
  clear SC
  obtain ⟨j0, j1, -, -⟩ := JG.out.see
  have hr1' := hr1.out
  go_wp2_with fail
  clear hr1' j0 j1
  refine SC1.out.mono ?_
  rintro e w2 ⟨rfl, hb2⟩
  have q := zr1.out.trans (hb2.mono zr1.out.size)
  have b2 := Lib.hid (b1.out.trans (q.mono b1.out.size))
  have JG2 := Lib.hid (JG.out.kept q)
  clear hb2 q SC1 hr1 zr1 JG
  go_wp2_with fail
  refine (MJ.out w2 b2.out).mono ?_
  rintro e w3 ⟨O, rfl, hpO, hGO, -, hb3⟩
  obtain ⟨w4, hw4, JO, zx, nO⟩ := grid_box w3 (.slice O.sa O.sl O.sc) (.slice O.ca O.cl O.cc)
  have q := hb3.trans (zx.out.mono hb3.size)
  have b4 := Lib.hid (b2.out.trans (q.mono b2.out.size))
  have JG4 := Lib.hid (JG2.out.kept q)
  have KO := Lib.hid (hGO.kept zx.out)
  have hpO2 := Lib.hid hpO
  clear hpO hGO hb3 q zx MJ JG2
  go_upto_region 4 with (fail)
  rw [hw4.out]
  obtain ⟨j0, j1, -, -⟩ := JG4.out.see
  go_wp2_with fail
  clear j0 j1
  refine (JB.out w4 b4.out).mono ?_
  rintro e w5 ⟨pa, pn, pc, us, rfl, hus, hgs, hb5⟩
  have b5 := Lib.hid (b4.out.trans (hb5.mono b4.out.size))
  have JG5 := Lib.hid (JG4.out.kept hb5)
  have JO5 := Lib.hid (JO.out.kept hb5)
  have KO5 := Lib.hid (KO.out.kept hb5)
  clear hb5 JB JG4 JO KO
  have hus2 := Lib.hid hus
  have hpn : pn = len := by
    have e1 := hgs.len
    have e2 := congrArg List.length hus
    rw [List.length_map, HPL.out, List.length_map, htl.out] at e2
    omega
  subst hpn
  obtain ⟨pb, po, rfl⟩ := hgs.addr h0
  have HU := Lib.hid hgs
  clear hus hgs
  obtain ⟨j0, j1, -, -⟩ := JG5.out.see
  go_wp2_with fail
  clear j0 j1
  refine (RG.out w5 b5.out).mono ?_
  rintro e w6 ⟨rfl, hb6⟩
  have b6 := Lib.hid (b5.out.trans (hb6.mono b5.out.size))
  have JG6 := Lib.hid (JG5.out.kept hb6)
  have JO6 := Lib.hid (JO5.out.kept hb6)
  have hq6 := Lib.hid hb6
  have SE := same_any g.sa g.sl g.sc g.ss O.sa O.sl O.sc O.ss w6 (HG.out w6 b6.out).1.1 (KO5.out.kept hb6).1.1
  rw [show O.ss = p1.1 from congrArg Prod.fst hpO2.out] at SE
  rw [HQ2.out] at SE
  replace SE := Lib.hid SE
  obtain ⟨j0, j1, -, -⟩ := JG6.out.see
  obtain ⟨o0, o1, -, -⟩ := JO6.out.see
  clear hb6 JG5 JO5
  go_wp2_with fail
  clear j0 j1 o0 o1
  refine SE.out.mono ?_
  rintro e w7 ⟨rfl, nq, rfl⟩
  have b7 := Lib.hid (below_drewN' b6.out nq)
  have JG7 := Lib.hid (JG6.out.kept (below_drewN' (Below.refl w6.heap.size w6) nq))
  clear SE JG6 JO6
  have HU7 := Lib.hid (HU.out.kept (Below.trans (show Below w5.heap.size w5 w6 from hq6.out) ((below_drewN' (Below.refl w6.heap.size w6) nq).mono hq6.out.size)))
  obtain ⟨w8, hw8⟩ : ∃ w8, w6.drewN nq = w8 := ⟨_, rfl⟩
  rw [hw8] at b7 JG7 HU7 ⊢
  clear HU hw8 hq6
  go_wp2_with fail
  go_loopw [87] (fun i wr => ∃ j : Nat, j ≤ pn ∧ i = .int .i64 j ∧ Hid (Below w8.heap.size w8 wr)) (fun i _ => pn - (intOf i).toNat)
  case atStart => exact ⟨0, Nat.zero_le _, rfl, Lib.hid (Below.refl _ _)⟩
  case round =>
    obtain ⟨j, hj, rfl, hbr⟩ := hrel
    by_cases hlt : j < pn
    · have hbw := b7.out.trans (hbr.out.mono b7.out.size)
      obtain ⟨t, ht⟩ : ∃ t, ts[j]? = some t := ⟨_, List.getElem?_eq_getElem (by rw [htl.out]; exact hlt)⟩
      have hul : us.length = pn := HU7.out.len
      obtain ⟨u, hu0⟩ : ∃ u, us[j]? = some u := ⟨_, List.getElem?_eq_getElem (by rw [hul]; exact hlt)⟩
      obtain ⟨e1, -, hu⟩ := (HU7.out.kept hbr.out).cell hu0
      obtain ⟨e2, -, ht2⟩ := (HT.out wr hbw).cell ht
      have hut : Hid (u.ss = t.ss) := Lib.hid (by
        have := congrArg (fun l => l[j]?) HPS.out
        simp only [← hus2.out, List.getElem?_map, hu0, ht, Option.map_some, Option.some.injEq] at this
        exact this)
      have HE1 := Lib.hid e1
      have HE2 := Lib.hid e2
      replace hu := Lib.hid hu
      replace ht2 := Lib.hid ht2
      clear e1 e2 hu0 ht hul hbw
      go_wp2_with fail
      have SK := Lib.hid (fun w' (hb : Below wr.heap.size wr w') => (show w'.cell? ⟨pb, po + j * 2, none⟩ = some (.slice u.sa u.sl u.sc) ∧ w'.cell? ⟨b, off + j * 2, none⟩ = some (.slice t.sa t.sl t.sc) from ⟨cell_later hb HE1.out, cell_later hb HE2.out⟩))
      have t1 := Lib.hid (show Below wr.heap.size wr wr.drew from (Below.refl _ _).drew)
      refine wp_region_held_drew (S := fun w' => w'.cell? ⟨pb, po + j * 2, none⟩ = some (.slice u.sa u.sl u.sc) ∧ w'.cell? ⟨b, off + j * 2, none⟩ = some (.slice t.sa t.sl t.sc)) (by kernel_rfl) (SK.out _ t1.out) (fun hHeld => ?_)
      refine held_take 0 (.slice (some ⟨pb, po, none⟩) pn pc) rfl (by kernel_rfl) (by kernel_rfl) (by kernel_rfl) (fun _ _ _ h => h) (by rfl) (by intro w' hS; go_simp) (by assumption) ?_
      try simp only [Act.put, List.setIfInBounds_toArray, List.set_cons_zero, List.set_cons_succ]
      refine held_take 1 (.int .i64 j) rfl (by kernel_rfl) (by kernel_rfl) (by kernel_rfl) (fun _ _ _ h => h) (by rfl) (by intro w' hS; go_simp) (by assumption) ?_
      try simp only [Act.put, List.setIfInBounds_toArray, List.set_cons_zero, List.set_cons_succ]
      refine held_take 2 (.pointer (some ⟨pb, po + j * 2, none⟩)) rfl (by kernel_rfl) (by kernel_rfl) (by kernel_rfl) (fun _ _ _ h => h) (by rfl) (by intro w' hS; go_simp) (by assumption) ?_
      try simp only [Act.put, List.setIfInBounds_toArray, List.set_cons_zero, List.set_cons_succ]
      refine held_take 3 (.pointer (some ⟨pb, po + j * 2, none⟩)) rfl (by kernel_rfl) (by kernel_rfl) (by kernel_rfl) (fun _ _ _ h => h) (by rfl) (by intro w' hS; go_simp) (by assumption) ?_
      try simp only [Act.put, List.setIfInBounds_toArray, List.set_cons_zero, List.set_cons_succ]
      refine held_take 4 (.slice u.sa u.sl u.sc) rfl (by kernel_rfl) (by kernel_rfl) (by kernel_rfl) (fun _ _ _ h => h) (by rfl) (by intro w' hS; go_simp) (by assumption) ?_
      try simp only [Act.put, List.setIfInBounds_toArray, List.set_cons_zero, List.set_cons_succ]
      refine held_take 5 (.slice (some ⟨b, off, none⟩) pn cap) rfl (by kernel_rfl) (by kernel_rfl) (by kernel_rfl) (fun _ _ _ h => h) (by rfl) (by intro w' hS; go_simp) (by assumption) ?_
      try simp only [Act.put, List.setIfInBounds_toArray, List.set_cons_zero, List.set_cons_succ]
      refine held_take 6 (.int .i64 j) rfl (by kernel_rfl) (by kernel_rfl) (by kernel_rfl) (fun _ _ _ h => h) (by rfl) (by intro w' hS; go_simp) (by assumption) ?_
      try simp only [Act.put, List.setIfInBounds_toArray, List.set_cons_zero, List.set_cons_succ]
      refine held_take 7 (.pointer (some ⟨b, off + j * 2, none⟩)) rfl (by kernel_rfl) (by kernel_rfl) (by kernel_rfl) (fun _ _ _ h => h) (by rfl) (by intro w' hS; go_simp) (by assumption) ?_
      try simp only [Act.put, List.setIfInBounds_toArray, List.set_cons_zero, List.set_cons_succ]
      refine held_take 8 (.pointer (some ⟨b, off + j * 2, none⟩)) rfl (by kernel_rfl) (by kernel_rfl) (by kernel_rfl) (fun _ _ _ h => h) (by rfl) (by intro w' hS; go_simp) (by assumption) ?_
      try simp only [Act.put, List.setIfInBounds_toArray, List.set_cons_zero, List.set_cons_succ]
      refine held_take 9 (.slice t.sa t.sl t.sc) rfl (by kernel_rfl) (by kernel_rfl) (by kernel_rfl) (fun _ _ _ h => h) (by rfl) (by intro w' hS; go_simp) (by assumption) ?_
      try simp only [Act.put, List.setIfInBounds_toArray, List.set_cons_zero, List.set_cons_succ]
      refine held_call 10 (by kernel_rfl) rfl (by rfl) (fun K hK => ?_)
      go_simp
      refine (same_any u.sa u.sl u.sc u.ss t.sa t.sl t.sc t.ss wr.drew (hu.out.kept t1.out).1.1 (ht2.out.kept t1.out).1.1).mono ?_
      rintro e wq ⟨rfl, nq, hwq⟩
      rw [hut.out, sameL_self]
      have bq := Lib.hid (show Below wr.heap.size wr wq by rw [hwq]; exact below_drewN' t1.out nq)
      clear hwq
      go_wp2_with fail
      refine hK.out _ _ (SK.out _ bq.out) (fun hHeld => ?_)
      try simp only [Act.put, List.setIfInBounds_toArray, List.set_cons_zero, List.set_cons_succ]
      refine held_take 11 (.bool false) rfl (by kernel_rfl) (by kernel_rfl) (by kernel_rfl) (fun _ _ _ h => h) (by rfl) (by intro w' hS; go_simp) (by assumption) ?_
      try simp only [Act.put, List.setIfInBounds_toArray, List.set_cons_zero, List.set_cons_succ]
      refine wpAnyH_done (by kernel_rfl) ?_ _
      have b9 := Lib.hid (hbr.out.trans (bq.out.mono hbr.out.size))
      clear SK t1 bq HE1 HE2 hu ht2 hut
      go_wp2_with fail
      go_roundw
      case rel => exact ⟨j + 1, by omega, by go_num, b9⟩
      case measure => (simp [intOf]; try omega)
    · obtain rfl : j = pn := by omega
      have b9 := Lib.hid (b7.out.trans (hbr.out.mono b7.out.size))
      have JG9 := Lib.hid (JG7.out.kept hbr.out)
      have hgs := HU7.out.kept hbr.out
      have CJ := mjoin_any side _ _ _ us wr hgs (by rw [cl_sum (fun u hu => hgs.good hu), hus2.out]; exact HPM.out)
      rw [hus2.out, HPJ.out] at CJ
      have CJ2 := Lib.hid CJ
      clear hgs CJ hbr HU7 JG7
      go_wp2_with fail
      refine CJ2.out.mono ?_
      rintro e w10 ⟨A, rfl, hpA, hGA, -, hb10⟩
      obtain ⟨w11, hw11, JA, zx, -⟩ := grid_box w10 (.slice A.sa A.sl A.sc) (.slice A.ca A.cl A.cc)
      have q := hb10.trans (zx.out.mono hb10.size)
      have b11 := Lib.hid (b9.out.trans (q.mono b9.out.size))
      have JG11 := Lib.hid (JG9.out.kept q)
      have EQ := tequal_any A.sa A.sl A.sc A.ss A.ca A.cl A.cc A.cs g.sa g.sl g.sc g.ss g.ca g.cl g.cc g.cs w11 (hGA.kept zx.out).1.1 (hGA.kept zx.out).1.2.1 (HG.out w11 b11.out).1.1 (HG.out w11 b11.out).1.2.1
      rw [show sameT A.ss A.cs g.ss g.cs = true by rw [show A.ss = g.ss from congrArg Prod.fst hpA, show A.cs = g.cs from congrArg Prod.snd hpA]; unfold sameT; rw [sameL_self, sameL_self]; rfl] at EQ
      replace EQ := Lib.hid EQ
      clear hpA hGA hb10 q zx CJ2 JG9
      go_upto_region 18 with (fail)
      rw [hw11.out]
      obtain ⟨j0, j1, -, -⟩ := JG11.out.see
      obtain ⟨a0, a1, -, -⟩ := JA.out.see
      go_wp2_with fail
      clear j0 j1 a0 a1
      refine EQ.out.mono ?_
      rintro e w12 ⟨rfl, hb12⟩
      have b12 := Lib.hid (b11.out.trans (hb12.mono b11.out.size))
      clear hb12
      go_wp2_with fail
      refine (awake09_any _).mono ?_
      rintro e w20 ⟨rfl, hb20⟩
      have b20 := Lib.hid (b12.out.trans (hb20.mono b12.out.size))
      clear hb20
      go_wp2_with fail
      go_ret
      exact ⟨rfl, b20.out⟩

theorem moveParts_walk (side : Int) (g : TV) (a : Option Addr) (len cap : Nat) (ts : List TV) (w : World) (h1 : -9223372036854775808 ≤ side) (h2 : side ≤ 9223372036854775807) (hg : Good g w) (h : Gsl w a len cap ts) :
    Calls Try.prog 4 #[.int .i64 side, .agg #[.slice g.sa g.sl g.sc, .slice g.ca g.cl g.cc], .slice a len cap] w fun e w' => e = .returned (.bool true) ∧ Below w.heap.size w w' := by
  cases hs : small9 ts
  · exact parts_big1 side g a len cap ts w hg h hs
  cases hs2 : small9 [g]
  · exact parts_big2 side g a len cap ts w hg h hs hs2
  by_cases hl : len ≤ 12
  case neg => exact parts_long side g a len cap ts w hg h hs hs2 (by omega)
  by_cases hE : (mjoinR side (ts.map pr)).1 = 0
  case neg => exact parts_err side g a len cap ts w hg h hs hs2 hl hE
  cases hq : rightT g.ss g.cl
  · exact parts_bad1 side g a len cap ts w hg h hs hs2 hl hE hq
  cases hq2 : sameL g.ss (mjoinR side (ts.map pr)).2.1
  · exact parts_bad2 side g a len cap ts w hg h hs hs2 hl hE hq hq2
  have h0 : 0 < len := by
    obtain ⟨-, -, -, -, -, -, -, hne, -⟩ := mjoin_good hE
    rcases Nat.eq_zero_or_pos len with h0 | h0
    · have := h.len
      rw [h0] at this
      rw [List.length_eq_zero_iff.1 this] at hne
      exact absurd rfl hne
    · exact h0
  obtain ⟨b, off, rfl⟩ := h.addr h0
  exact parts_ok side g b off len cap ts w hg h hs hs2 hl h0 hE hq hq2
end Go.Proofs.Ytieegaojcjhfdaa

