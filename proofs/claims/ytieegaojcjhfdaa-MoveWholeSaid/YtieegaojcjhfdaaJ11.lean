import Derived.Test.YtieegaojcjhfdaaJ00
import Derived.Test.YtieegaojcjhfdaaJ02
import Derived.Test.YtieegaojcjhfdaaJ05
import Derived.Test.YtieegaojcjhfdaaJ06
/-
  A tensor in a box of its own; the cut behind a region with a call and an alloc. (Moved here from TJoinsB and DenseE.)
-/
namespace Go.Proofs.Ytieegaojcjhfdaa
open Go.RowKit
set_option linter.unusedVariables false
set_option linter.unusedSimpArgs false

/-- A tensor in a box of its own: the box's block, the two slices, the world. -/
structure BoxQ where
  B : Nat
  A8 : Option Addr
  c8 : Nat
  A9 : Option Addr
  c9 : Nat
  W : World
def BoxP (w0 : World) (sl : Nat) (ss : List Int) (cl : Nat) (cs : List Int) (q : BoxQ) : Prop :=
  IntsAt q.W q.A8 sl ss ∧ IntsAt q.W q.A9 cl cs ∧ GAt q.W q.B (.slice q.A8 sl q.c8) (.slice q.A9 cl q.c9) ∧ Below w0.heap.size w0 q.W
theorem box_after {w0 w1 w7 : World} {sl cl c8 c9 : Nat} {ss cs : List Int} {A8 A9 : Option Addr} (hb : Below w0.heap.size w0 w1) (o8 : w7.ownsRow w1.heap.size 3 1 (.slice A8 sl c8) sl (ss.map (Value.int .i64))) (o9 : w7.ownsRow w1.heap.size 35 1 (.slice A9 cl c9) cl (cs.map (Value.int .i64))) (hb7 : Below w1.heap.size w1 w7)
    (h1 : sl ≤ 9223372036854775807) (h2 : cl ≤ 9223372036854775807) (f1 : Fits ss) (f2 : Fits cs) : BoxP w0 sl ss cl cs ⟨w7.heap.size, A8, c8, A9, c9, w7.alloc (.cells #[.slice A8 sl c8, .slice A9 cl c9] 29)⟩ := by
  have hb8 := hb.trans (hb7.mono hb.size)
  exact ⟨row_ints (o8.alloc _) h1 f1, row_ints (o9.alloc _) h2 f2, World.alloc_heap_new w7 _, hb8.alloc hb8.size _⟩
theorem box_before {w0 w1 w7 : World} {sl cl c8 c9 : Nat} {ss cs : List Int} {A8 A9 : Option Addr} {s c : Value} (hw : w0.heap.size < w1.heap.size) (hg : GAt w1 w0.heap.size s c) (hb : Below w0.heap.size w0 w1) (o8 : w7.ownsRow w1.heap.size 3 1 (.slice A8 sl c8) sl (ss.map (Value.int .i64))) (o9 : w7.ownsRow w1.heap.size 35 1 (.slice A9 cl c9) cl (cs.map (Value.int .i64))) (hb7 : Below w1.heap.size w1 w7)
    (h1 : sl ≤ 9223372036854775807) (h2 : cl ≤ 9223372036854775807) (f1 : Fits ss) (f2 : Fits cs) : BoxP w0 sl ss cl cs ⟨w0.heap.size, A8, c8, A9, c9, (w7.setCell ⟨w0.heap.size, 0, none⟩ (.slice A8 sl c8)).setCell ⟨w0.heap.size, 1, none⟩ (.slice A9 cl c9)⟩ := by
  have hb8 := hb.trans (hb7.mono hb.size)
  exact ⟨row_ints (row_far (row_far o8 hw) hw) h1 f1, row_ints (row_far (row_far o9 hw) hw) h2 f2, (hg.kept hb7).set _ _, (hb8.setCell (Nat.le_refl _) _).setCell (Nat.le_refl _) _⟩
theorem wp_cutP {P : Program} {c : Code} {Q : Exit → Act → World → Prop} {K : Act → World → Prop} {a : Act} {w : World} {ι : Type} (H : ι → Prop) (f : ι → Act → Act) (w₀ : ι → World)
    (h : c.wp P (CutP H f w₀ a) a w) (hk : ∀ x, H x → K (f x a) (w₀ x)) : c.wp P (Exit.then K Q) a w :=
  Code.wp_mono (by rintro e a' w' ⟨x, hx, rfl, rfl, rfl⟩; exact hk x hx) h
end Go.Proofs.Ytieegaojcjhfdaa

/-
  The walk of the statement MoveWhole.
-/
namespace Go.Proofs.Ytieegaojcjhfdaa
open Go.RowKit
set_option linter.unusedVariables false
set_option linter.unusedSimpArgs false

theorem box_put9 {w0 V : World} {K sl cl c8 c9 : Nat} {ss cs : List Int} {A8 A9 : Option Addr} {s c : Value} (hg : GAt V K s c) (hK : w0.heap.size ≤ K) (hb : Below w0.heap.size w0 V) (i8 : IntsAt V A8 sl ss) (i9 : IntsAt V A9 cl cs) (h8 : ∀ p, A8 = some p → p.block ≠ K) (h9 : ∀ p, A9 = some p → p.block ≠ K) :
    BoxP w0 sl ss cl cs ⟨K, A8, c8, A9, c9, (V.setCell ⟨K, 0, none⟩ (.slice A8 sl c8)).setCell ⟨K, 1, none⟩ (.slice A9 cl c9)⟩ := by
  have hO := ((Only.refl K V).setCell 0 (.slice A8 sl c8)).setCell 1 (.slice A9 cl c9)
  exact ⟨hO.ints i8 h8, hO.ints i9 h9, hg.set _ _, (hb.setCell (p := ⟨K, 0, none⟩) hK _).setCell (p := ⟨K, 1, none⟩) hK _⟩
/-- A new tensor whose shape and cells are known, and where its rows lie. -/
theorem tres_open2 {w w' : World} {x : Int} {ss cs : List Int} {e : Ending} {n m : Nat} (h : TRes w (x, (ss, cs)) e w') (h1 : ss.length = n) (h2 : cs.length = m) :
    ∃ A c A' c', e = .returned (.tuple #[.agg #[.slice A n c, .slice A' m c'], .int .i64 x]) ∧ IntsAt w' A n ss ∧ IntsAt w' A' m cs ∧ (∀ p, A = some p → w.heap.size ≤ p.block ∧ p.block < w'.heap.size) ∧ (∀ p, A' = some p → w.heap.size ≤ p.block ∧ p.block < w'.heap.size) ∧ Below w.heap.size w w' := by
  obtain ⟨⟨A, sl, c, s, A', cl, c', d⟩, rfl, hp, hG, hL, hb⟩ := h
  simp only [pr, Prod.mk.injEq] at hp
  obtain ⟨rfl, rfl⟩ := hp
  obtain rfl : s.length = sl := hG.slen
  obtain rfl : d.length = cl := hG.len
  subst h1 h2
  exact ⟨A, c, A', c', rfl, hG.1.1, hG.1.2.1, fun p hp => hL _ (tblocks_mem.2 (.inl ⟨p, hp, rfl⟩)), fun p hp => hL _ (tblocks_mem.2 (.inr ⟨p, hp, rfl⟩)), hb⟩
/-- A whole side cut, and a single tensor joined. -/
theorem whole_facts {x : Pr} {k n P M : Nat} (hN : NumT x.1 k n P M) (hx : okP x = true) : cutR x k 0 n = (0, x) ∧ mjoinR k [x] = (0, x) :=
  ⟨cutR_all hN hx, alone_ok hx hN.len⟩
theorem whole_backs {x g : Pr} {k n P M : Nat} (hN : NumT x.1 k n P M) (hx : okP x = true) (hg : okP g = true) (he : g.1 = x.1) : cbackR x g k 0 n = (0, g) ∧ jbackR k g [x] = (0, [g]) := by
  have hgN : NumT g.1 k n P M := by rw [he]; exact hN
  have e0 : ((0 : Nat) : Int) = 0 := rfl
  have hn1 := hN.x1
  constructor
  · unfold cbackR
    have hc := cutR_all hN hx
    rw [if_neg (by rw [hc]; simp), if_neg (by rw [hc, hg]; show ¬ (true && sameL g.1 x.1) = false; rw [he, sameL_self]; decide)]
    have h := cback_ok (x := x) (g := g) hN hx (f := 0) (t := n) (by omega) (Nat.le_refl _) hg (by rw [he, Nat.sub_zero, ← hN.xE, set_own _ _ hN.len])
    simp only [e0] at h
    rw [h, Nat.sub_self, Nat.sub_zero, Nat.zero_mul, spread_none (okP_len hgN hg), ← he]
  · unfold jbackR
    have hm := alone_ok hx hN.len
    have hm' : mjoinR k [x] = (0, x) := hm
    rw [if_neg (by rw [hm']; simp), if_neg (by rw [hm', hg]; show ¬ (true && sameL g.1 x.1) = false; rw [he, sameL_self]; decide)]
    rw [Int.toNat_natCast]
    show (0, [(cutR g k 0 (0 + x.1.getD k 0)).2]) = _
    rw [Int.zero_add, hN.xE, cutR_all hgN hg]

set_option maxRecDepth 100000 in
set_option maxHeartbeats 4000000 in
theorem whole_big (x g : TV) (side : Int) (w : World) (hx : Good x w) (hg : Good g w) (hs : small9 [x, g] = false) :
    Calls Try.prog 7 #[.agg #[.slice x.sa x.sl x.sc, .slice x.ca x.cl x.cc], .agg #[.slice g.sa g.sl g.sc, .slice g.ca g.cl g.cc], .int .i64 side] w fun e w' => e = .returned (.bool true) ∧ Below w.heap.size w w' := by
  obtain ⟨wA, hwA, J1, z1, n1⟩ := grid_box w (.slice x.sa x.sl x.sc) (.slice x.ca x.cl x.cc)
  obtain ⟨wB, hwB, J2, z2, n2⟩ := grid_box wA (.slice g.sa g.sl g.sc) (.slice g.ca g.cl g.cc)
  rw [n1.out] at J2
  have z := Lib.hid (z1.out.trans (z2.out.mono z1.out.size))
  have J := Lib.hid (J1.out.kept z2.out)
  obtain ⟨r1, hr1, gs1, zr1⟩ := gsl_made2 wB x g (hx.kept z.out) (hg.kept z.out)
  have SM := small9_any _ 2 2 _ r1 gs1.out.at_
  rw [hs] at SM
  have SM1 := Lib.hid SM
  clear SM hs hx hg
  obtain ⟨j0, j1, -, -⟩ := J.out.see
  obtain ⟨k0, k1, -, -⟩ := J2.out.see
  have hr1' := hr1.out
  go_enter Try.func7, Try.ntmps7
  go_upto_region 1 with (fail)
  rw [hwA.out, hwB.out]
  go_wp2_with fail
  clear hr1' j0 j1 k0 k1
  refine SM1.out.mono ?_
  rintro e w1 ⟨rfl, hb1⟩
  have q1 := zr1.out.trans (hb1.mono zr1.out.size)
  have b1 := Lib.hid (z.out.trans (q1.mono z.out.size))
  have JX := Lib.hid (J.out.kept q1)
  have JG := Lib.hid (J2.out.kept q1)
  clear hb1 q1 SM1 J1 J J2 gs1 zr1 hr1
  go_wp2_with fail
  refine (awake09_any _).mono ?_
  rintro e w20 ⟨rfl, hb20⟩
  have b20 := Lib.hid (b1.out.trans (hb20.mono b1.out.size))
  clear hb20
  go_wp2_with fail
  go_ret
  exact ⟨rfl, b20.out⟩

set_option maxRecDepth 100000 in
set_option maxHeartbeats 4000000 in
theorem whole_wrong (x g : TV) (side : Int) (w : World) (hx : Good x w) (hg : Good g w) (hs : small9 [x, g] = true) (hq : rightT x.ss x.cl = false) :
    Calls Try.prog 7 #[.agg #[.slice x.sa x.sl x.sc, .slice x.ca x.cl x.cc], .agg #[.slice g.sa g.sl g.sc, .slice g.ca g.cl g.cc], .int .i64 side] w fun e w' => e = .returned (.bool true) ∧ Below w.heap.size w w' := by
  have RX := fun w1 (hb : Below w.heap.size w w1) => right9_any x.sa x.sl x.sc x.ss x.ca x.cl x.cc w1 (hx.kept hb).1.1 (by have := hx.1.2.2.2; omega)
  rw [hq] at RX
  replace RX := Lib.hid RX
  obtain ⟨wA, hwA, J1, z1, n1⟩ := grid_box w (.slice x.sa x.sl x.sc) (.slice x.ca x.cl x.cc)
  obtain ⟨wB, hwB, J2, z2, n2⟩ := grid_box wA (.slice g.sa g.sl g.sc) (.slice g.ca g.cl g.cc)
  rw [n1.out] at J2
  have z := Lib.hid (z1.out.trans (z2.out.mono z1.out.size))
  have J := Lib.hid (J1.out.kept z2.out)
  obtain ⟨r1, hr1, gs1, zr1⟩ := gsl_made2 wB x g (hx.kept z.out) (hg.kept z.out)
  have SM := small9_any _ 2 2 _ r1 gs1.out.at_
  rw [hs] at SM
  have SM1 := Lib.hid SM
  clear SM hs hx hg hq
  obtain ⟨j0, j1, -, -⟩ := J.out.see
  obtain ⟨k0, k1, -, -⟩ := J2.out.see
  have hr1' := hr1.out
  go_enter Try.func7, Try.ntmps7
  go_upto_region 1 with (fail)
  rw [hwA.out, hwB.out]
  go_wp2_with fail
  clear hr1' j0 j1 k0 k1
  refine SM1.out.mono ?_
  rintro e w1 ⟨rfl, hb1⟩
  have q1 := zr1.out.trans (hb1.mono zr1.out.size)
  have b1 := Lib.hid (z.out.trans (q1.mono z.out.size))
  have JX := Lib.hid (J.out.kept q1)
  have JG := Lib.hid (J2.out.kept q1)
  clear hb1 q1 SM1 J1 J J2 gs1 zr1 hr1
  obtain ⟨j0, j1, -, -⟩ := JX.out.see
  go_wp2_with fail
  clear j0 j1
  refine (RX.out w1 b1.out).mono ?_
  rintro e w2 ⟨rfl, hb2⟩
  have b2 := Lib.hid (b1.out.trans (hb2.mono b1.out.size))
  have JX2 := Lib.hid (JX.out.kept hb2)
  have JG2 := Lib.hid (JG.out.kept hb2)
  clear hb2 JX JG
  go_wp2_with fail
  refine (awake09_any _).mono ?_
  rintro e w20 ⟨rfl, hb20⟩
  have b20 := Lib.hid (b2.out.trans (hb20.mono b2.out.size))
  clear hb20
  go_wp2_with fail
  go_ret
  exact ⟨rfl, b20.out⟩

set_option maxRecDepth 100000 in
set_option maxHeartbeats 4000000 in
theorem whole_low (x g : TV) (side : Int) (w : World) (hx : Good x w) (hg : Good g w) (hs : small9 [x, g] = true) (hq : rightT x.ss x.cl = true) (hd : side < 0) :
    Calls Try.prog 7 #[.agg #[.slice x.sa x.sl x.sc, .slice x.ca x.cl x.cc], .agg #[.slice g.sa g.sl g.sc, .slice g.ca g.cl g.cc], .int .i64 side] w fun e w' => e = .returned (.bool true) ∧ Below w.heap.size w w' := by
  have RX := fun w1 (hb : Below w.heap.size w w1) => right9_any x.sa x.sl x.sc x.ss x.ca x.cl x.cc w1 (hx.kept hb).1.1 (by have := hx.1.2.2.2; omega)
  rw [hq] at RX
  replace RX := Lib.hid RX
  obtain ⟨wA, hwA, J1, z1, n1⟩ := grid_box w (.slice x.sa x.sl x.sc) (.slice x.ca x.cl x.cc)
  obtain ⟨wB, hwB, J2, z2, n2⟩ := grid_box wA (.slice g.sa g.sl g.sc) (.slice g.ca g.cl g.cc)
  rw [n1.out] at J2
  have z := Lib.hid (z1.out.trans (z2.out.mono z1.out.size))
  have J := Lib.hid (J1.out.kept z2.out)
  obtain ⟨r1, hr1, gs1, zr1⟩ := gsl_made2 wB x g (hx.kept z.out) (hg.kept z.out)
  have SM := small9_any _ 2 2 _ r1 gs1.out.at_
  rw [hs] at SM
  have SM1 := Lib.hid SM
  clear SM hs hx hg hq
  obtain ⟨j0, j1, -, -⟩ := J.out.see
  obtain ⟨k0, k1, -, -⟩ := J2.out.see
  have hr1' := hr1.out
  go_enter Try.func7, Try.ntmps7
  go_upto_region 1 with (fail)
  rw [hwA.out, hwB.out]
  go_wp2_with fail
  clear hr1' j0 j1 k0 k1
  refine SM1.out.mono ?_
  rintro e w1 ⟨rfl, hb1⟩
  have q1 := zr1.out.trans (hb1.mono zr1.out.size)
  have b1 := Lib.hid (z.out.trans (q1.mono z.out.size))
  have JX := Lib.hid (J.out.kept q1)
  have JG := Lib.hid (J2.out.kept q1)
  clear hb1 q1 SM1 J1 J J2 gs1 zr1 hr1
  obtain ⟨j0, j1, -, -⟩ := JX.out.see
  go_wp2_with fail
  clear j0 j1
  refine (RX.out w1 b1.out).mono ?_
  rintro e w2 ⟨rfl, hb2⟩
  have b2 := Lib.hid (b1.out.trans (hb2.mono b1.out.size))
  have JX2 := Lib.hid (JX.out.kept hb2)
  have JG2 := Lib.hid (JG.out.kept hb2)
  clear hb2 JX JG
  obtain ⟨j0, j1, -, -⟩ := JX2.out.see
  go_wp2_with fail
  clear j0 j1
  refine (awake09_any _).mono ?_
  rintro e w20 ⟨rfl, hb20⟩
  have b20 := Lib.hid (b2.out.trans (hb20.mono b2.out.size))
  clear hb20
  go_wp2_with fail
  go_ret
  exact ⟨rfl, b20.out⟩

set_option maxRecDepth 100000 in
set_option maxHeartbeats 4000000 in
theorem whole_high (x g : TV) (side : Int) (w : World) (hx : Good x w) (hg : Good g w) (hs : small9 [x, g] = true) (hq : rightT x.ss x.cl = true) (hd : ¬ side < 0) (hd2 : (x.sl : Int) ≤ side) :
    Calls Try.prog 7 #[.agg #[.slice x.sa x.sl x.sc, .slice x.ca x.cl x.cc], .agg #[.slice g.sa g.sl g.sc, .slice g.ca g.cl g.cc], .int .i64 side] w fun e w' => e = .returned (.bool true) ∧ Below w.heap.size w w' := by
  have RX := fun w1 (hb : Below w.heap.size w w1) => right9_any x.sa x.sl x.sc x.ss x.ca x.cl x.cc w1 (hx.kept hb).1.1 (by have := hx.1.2.2.2; omega)
  rw [hq] at RX
  replace RX := Lib.hid RX
  obtain ⟨wA, hwA, J1, z1, n1⟩ := grid_box w (.slice x.sa x.sl x.sc) (.slice x.ca x.cl x.cc)
  obtain ⟨wB, hwB, J2, z2, n2⟩ := grid_box wA (.slice g.sa g.sl g.sc) (.slice g.ca g.cl g.cc)
  rw [n1.out] at J2
  have z := Lib.hid (z1.out.trans (z2.out.mono z1.out.size))
  have J := Lib.hid (J1.out.kept z2.out)
  obtain ⟨r1, hr1, gs1, zr1⟩ := gsl_made2 wB x g (hx.kept z.out) (hg.kept z.out)
  have SM := small9_any _ 2 2 _ r1 gs1.out.at_
  rw [hs] at SM
  have SM1 := Lib.hid SM
  clear SM hs hx hg hq
  obtain ⟨j0, j1, -, -⟩ := J.out.see
  obtain ⟨k0, k1, -, -⟩ := J2.out.see
  have hr1' := hr1.out
  go_enter Try.func7, Try.ntmps7
  go_upto_region 1 with (fail)
  rw [hwA.out, hwB.out]
  go_wp2_with fail
  clear hr1' j0 j1 k0 k1
  refine SM1.out.mono ?_
  rintro e w1 ⟨rfl, hb1⟩
  have q1 := zr1.out.trans (hb1.mono zr1.out.size)
  have b1 := Lib.hid (z.out.trans (q1.mono z.out.size))
  have JX := Lib.hid (J.out.kept q1)
  have JG := Lib.hid (J2.out.kept q1)
  clear hb1 q1 SM1 J1 J J2 gs1 zr1 hr1
  obtain ⟨j0, j1, -, -⟩ := JX.out.see
  go_wp2_with fail
  clear j0 j1
  refine (RX.out w1 b1.out).mono ?_
  rintro e w2 ⟨rfl, hb2⟩
  have b2 := Lib.hid (b1.out.trans (hb2.mono b1.out.size))
  have JX2 := Lib.hid (JX.out.kept hb2)
  have JG2 := Lib.hid (JG.out.kept hb2)
  clear hb2 JX JG
  obtain ⟨j0, j1, -, -⟩ := JX2.out.see
  go_wp2_with fail
  clear j0 j1
  refine (awake09_any _).mono ?_
  rintro e w20 ⟨rfl, hb20⟩
  have b20 := Lib.hid (b2.out.trans (hb20.mono b2.out.size))
  clear hb20
  go_wp2_with fail
  go_ret
  exact ⟨rfl, b20.out⟩

set_option maxRecDepth 100000 in
set_option maxHeartbeats 32000000 in
theorem whole_oka (x g : TV) (k n P M : Nat) (w : World) (hx : Good x w) (hg : Good g w) (hs : small9 [x, g] = true) (hq : rightT x.ss x.cl = true) (hN : NumT x.ss k n P M) (hq2 : rightT g.ss g.cl = false) :
    Calls Try.prog 7 #[.agg #[.slice x.sa x.sl x.sc, .slice x.ca x.cl x.cc], .agg #[.slice g.sa g.sl g.sc, .slice g.ca g.cl g.cc], .int .i64 k] w fun e w' => e = .returned (.bool true) ∧ Below w.heap.size w w' := by
  have hw9 := small9_le hs
  have hxl : x.cl ≤ 1000 := by have := wtsM_mem (t := x) (ts := [x, g]) (by simp); omega
  have hgl : g.cl ≤ 1000 := by have := wtsM_mem (t := g) (ts := [x, g]) (by simp); omega
  have hxo : okP (pr x) = true := by rw [hx.ok]; exact hq
  obtain ⟨w1f, w2f⟩ := whole_facts (x := pr x) hN hxo
  have MC := fun w1 (hb : Below w.heap.size w w1) => mcut_any x k 0 n w1 (hx.kept hb) (by omega)
  rw [w1f] at MC
  replace MC : ∀ w1, Below w.heap.size w w1 → Calls _ _ _ w1 (TRes w1 (0, (x.ss, x.cs))) := MC
  have MJ := fun (w1 : World) (K : Nat) (hG : Gsl w1 (some ⟨K, 0, none⟩) 1 1 [x]) => mjoin_any k _ 1 1 [x] w1 hG (by show x.cl + 0 ≤ 1000; omega)
  rw [show List.map pr [x] = [pr x] from rfl, w2f] at MJ
  have RG := fun w1 (hb : Below w.heap.size w w1) => right9_any g.sa g.sl g.sc g.ss g.ca g.cl g.cc w1 (hg.kept hb).1.1 (by omega)
  rw [hq2] at RG
  replace RG := Lib.hid RG
  have hkl : k < x.sl := by have h1 : k < x.ss.length := hN.len; have := hx.slen; omega
  obtain ⟨sb, so, hsa, hsc⟩ := ints_cell hx.1.1 (by omega)
  have HSC := Lib.hid (fun w1 (hb : Below w.heap.size w w1) => cell_later hb (hsc k hkl))
  rw [hN.xE] at HSC
  have HX := Lib.hid (fun w1 (hb : Below w.heap.size w w1) => hx.kept hb)
  have HG := Lib.hid (fun w1 (hb : Below w.heap.size w w1) => hg.kept hb)
  have hkI : (k : Int) < x.sl := by omega
  have hk0 : decide ((k : Int) < 0) = false := decide_eq_false (by omega)
  have hk1 : decide (x.sl ≤ k) = false := decide_eq_false (by omega)
  have HSL := Lib.hid hx.slen
  have HCL := Lib.hid hx.len
  have bx2 := Lib.hid hx.1.2.2.1
  have RX := fun w1 (hb : Below w.heap.size w w1) => right9_any x.sa x.sl x.sc x.ss x.ca x.cl x.cc w1 (hx.kept hb).1.1 (by have := hx.1.2.2.2; omega)
  rw [hq] at RX
  replace RX := Lib.hid RX
  obtain ⟨wA, hwA, J1, z1, n1⟩ := grid_box w (.slice x.sa x.sl x.sc) (.slice x.ca x.cl x.cc)
  obtain ⟨wB, hwB, J2, z2, n2⟩ := grid_box wA (.slice g.sa g.sl g.sc) (.slice g.ca g.cl g.cc)
  rw [n1.out] at J2
  have z := Lib.hid (z1.out.trans (z2.out.mono z1.out.size))
  have J := Lib.hid (J1.out.kept z2.out)
  obtain ⟨r1, hr1, gs1, zr1⟩ := gsl_made2 wB x g (hx.kept z.out) (hg.kept z.out)
  have SM := small9_any _ 2 2 _ r1 gs1.out.at_
  rw [hs] at SM
  have SM1 := Lib.hid SM
  have HM1 := fun w1 (hb : Below w.heap.size w w1) => gsl_made1 w1 x (hx.kept hb)
  rw [hsa] at MC HM1 ⊢
  simp only [hsa] at hwA J hr1
  simp only [hsa] at RX
  replace MC := Lib.hid MC
  replace MJ := Lib.hid MJ
  replace HM1 := Lib.hid HM1
  clear SM hs hx hg hq hw9 hxo w1f w2f hsc hN hq2 
  obtain ⟨j0, j1, -, -⟩ := J.out.see
  obtain ⟨k0, k1, -, -⟩ := J2.out.see
  have hr1' := hr1.out
  go_enter Try.func7, Try.ntmps7
  go_upto_region 1 with (fail)
  rw [hwA.out, hwB.out]
  go_wp2_with fail
  clear hr1' j0 j1 k0 k1
  refine SM1.out.mono ?_
  rintro e w1 ⟨rfl, hb1⟩
  have q1 := zr1.out.trans (hb1.mono zr1.out.size)
  have b1 := Lib.hid (z.out.trans (q1.mono z.out.size))
  have JX := Lib.hid (J.out.kept q1)
  have JG := Lib.hid (J2.out.kept q1)
  clear hb1 q1 SM1 J1 J J2 gs1 zr1 hr1
  obtain ⟨j0, j1, -, -⟩ := JX.out.see
  go_wp2_with fail
  clear j0 j1
  refine (RX.out w1 b1.out).mono ?_
  rintro e w2 ⟨rfl, hb2⟩
  have b2 := Lib.hid (b1.out.trans (hb2.mono b1.out.size))
  have JX2 := Lib.hid (JX.out.kept hb2)
  have JG2 := Lib.hid (JG.out.kept hb2)
  clear hb2 JX JG
  obtain ⟨j0, j1, -, -⟩ := JX2.out.see
  go_wp2_with fail
  clear j0 j1
  have SK := Lib.hid (fun w' (hb : Below w2.heap.size w2 w') => (show w'.cell? ⟨w.heap.size, 0, none⟩ = some (.slice (some ⟨sb, so, none⟩) x.sl x.sc) ∧ w'.cell? ⟨w.heap.size, 1, none⟩ = some (.slice x.ca x.cl x.cc) ∧ w'.cell? ⟨sb, so + k, none⟩ = some (.int .i64 n) from ⟨(JX2.out.kept hb).see.1, (JX2.out.kept hb).see.2.1, HSC.out w' (b2.out.trans (hb.mono b2.out.size))⟩))
  have t1 := Lib.hid (show Below w2.heap.size w2 w2.drew from (Below.refl _ _).drew)
  obtain ⟨V1, hV1⟩ : ∃ V1, (w2.alloc (.cells #[.slice none 0 0, .slice none 0 0] 29)).drew = V1 := ⟨_, rfl⟩
  have HV1 := Lib.hid hV1
  have JV1 := Lib.hid (show GAt V1 w2.heap.size (.slice none 0 0) (.slice none 0 0) by rw [← hV1]; exact World.alloc_heap_new w2 _)
  have bV1 := Lib.hid (show Below w2.heap.size w2 V1 by rw [← hV1]; exact ((Below.refl _ _).alloc (Nat.le_refl _) _).drew)
  have sV1 := Lib.hid (show w2.heap.size < V1.heap.size by rw [← hV1]; show w2.heap.size < (w2.alloc _).heap.size; simp)
  have CC := Lib.hid (fun wv (hb : Below w2.heap.size w2 wv) => MC.out wv (b2.out.trans (hb.mono b2.out.size)))
  clear hV1 MC
  go_upto_region 3 with (fail)
  refine wp_cutP (ι := BoxQ) (BoxP w2 x.sl x.ss x.cl x.cs) (fun q a => (((((((((((((a.put (some 38) (.agg #[.slice (some ⟨sb, so, none⟩) x.sl x.sc, .slice x.ca x.cl x.cc])).put (some 39) (.int .i64 k)).put (some 40) (.pointer (some ⟨w.heap.size, 0, none⟩))).put (some 41) (.slice (some ⟨sb, so, none⟩) x.sl x.sc)).put (some 42) (.int .i64 k)).put (some 43) (.pointer (some ⟨sb, so + k, none⟩))).put (some 44) (.int .i64 n)).put (some 45) (.tuple #[.agg #[.slice q.A8 x.sl q.c8, .slice q.A9 x.cl q.c9], .int .i64 0])).put (some 37) (.tuple #[.agg #[.slice q.A8 x.sl q.c8, .slice q.A9 x.cl q.c9], .int .i64 0])).put (some 46) (.agg #[.slice q.A8 x.sl q.c8, .slice q.A9 x.cl q.c9])).put (some 47) (.int .i64 0)).put (some 7) (.pointer (some ⟨q.B, 0, none⟩))).put (some 8) (.int .i64 0))) (fun q => q.W) ?_ ?_
  · refine wp_region_held_drew (S := fun w' => w'.cell? ⟨w.heap.size, 0, none⟩ = some (.slice (some ⟨sb, so, none⟩) x.sl x.sc) ∧ w'.cell? ⟨w.heap.size, 1, none⟩ = some (.slice x.ca x.cl x.cc) ∧ w'.cell? ⟨sb, so + k, none⟩ = some (.int .i64 n)) (by kernel_rfl) (SK.out _ t1.out) (fun hHeld => ?_)
    refine held_take 0 (.agg #[.slice (some ⟨sb, so, none⟩) x.sl x.sc, .slice x.ca x.cl x.cc]) rfl (by kernel_rfl) (by kernel_rfl) (by kernel_rfl) (fun _ _ _ h => by obtain ⟨_, _, h, _⟩ := h; cases h) (by rfl) (by intro w' hS; go_simp) (by assumption) ?_
    try simp only [Act.put, List.setIfInBounds_toArray, List.set_cons_zero, List.set_cons_succ]
    refine held_take 1 (.int .i64 k) rfl (by kernel_rfl) (by kernel_rfl) (by kernel_rfl) (fun _ _ _ h => by obtain ⟨_, _, h, _⟩ := h; cases h) (by rfl) (by intro w' hS; go_simp) (by assumption) ?_
    try simp only [Act.put, List.setIfInBounds_toArray, List.set_cons_zero, List.set_cons_succ]
    refine held_take 2 (.pointer (some ⟨w.heap.size, 0, none⟩)) rfl (by kernel_rfl) (by kernel_rfl) (by kernel_rfl) (fun _ _ _ h => by obtain ⟨_, _, h, _⟩ := h; cases h) (by rfl) (by intro w' hS; go_simp) (by assumption) ?_
    try simp only [Act.put, List.setIfInBounds_toArray, List.set_cons_zero, List.set_cons_succ]
    refine held_take 3 (.slice (some ⟨sb, so, none⟩) x.sl x.sc) rfl (by kernel_rfl) (by kernel_rfl) (by kernel_rfl) (fun _ _ _ h => by obtain ⟨_, _, h, _⟩ := h; cases h) (by rfl) (by intro w' hS; go_simp) (by assumption) ?_
    try simp only [Act.put, List.setIfInBounds_toArray, List.set_cons_zero, List.set_cons_succ]
    refine held_take 4 (.int .i64 k) rfl (by kernel_rfl) (by kernel_rfl) (by kernel_rfl) (fun _ _ _ h => by obtain ⟨_, _, h, _⟩ := h; cases h) (by rfl) (by intro w' hS; go_simp) (by assumption) ?_
    try simp only [Act.put, List.setIfInBounds_toArray, List.set_cons_zero, List.set_cons_succ]
    refine held_take 5 (.pointer (some ⟨sb, so + k, none⟩)) rfl (by kernel_rfl) (by kernel_rfl) (by kernel_rfl) (fun _ _ _ h => by obtain ⟨_, _, h, _⟩ := h; cases h) (by rfl) (by intro w' hS; go_simp) (by assumption) ?_
    try simp only [Act.put, List.setIfInBounds_toArray, List.set_cons_zero, List.set_cons_succ]
    refine held_take 6 (.int .i64 n) rfl (by kernel_rfl) (by kernel_rfl) (by kernel_rfl) (fun _ _ _ h => by obtain ⟨_, _, h, _⟩ := h; cases h) (by rfl) (by intro w' hS; go_simp) (by assumption) ?_
    try simp only [Act.put, List.setIfInBounds_toArray, List.set_cons_zero, List.set_cons_succ]
    refine held_two 7 11 (by kernel_rfl) rfl rfl (by rfl) (by rfl) (fun K hK => ?_) (fun K hK => ?_)
    · go_simp
      refine (CC.out w2.drew t1.out).mono ?_
      rintro e y2 h'
      obtain ⟨A8, c8, A9, c9, rfl, o8, o9, l8, l9, hb7⟩ := tres_open2 (n := x.sl) (m := x.cl) h' HSL.out HCL.out
      have b7 := t1.out.trans (hb7.mono t1.out.size)
      obtain ⟨V, hV, JV, zV, nV⟩ := grid_box y2 (.slice none 0 0) (.slice none 0 0)
      have b7h := Lib.hid b7
      have bV := Lib.hid (b7.trans (zV.out.mono b7.size))
      have I8 := Lib.hid (o8.kept zV.out)
      have I9 := Lib.hid (o9.kept zV.out)
      have hK8 : ∀ p, A8 = some p → p.block ≠ y2.heap.size := fun p hp e => by have := (l8 p hp).2; omega
      have hK9 : ∀ p, A9 = some p → p.block ≠ y2.heap.size := fun p hp e => by have := (l9 p hp).2; omega
      have hKb : w2.heap.size ≤ y2.heap.size := b7.size
      clear o8 o9 l8 l9 hb7 b7 h'
      go_wp2_with fail
      refine hK.out _ _ (SK.out _ b7h.out) (fun hHeld => ?_)
      try simp only [Act.put, List.setIfInBounds_toArray, List.set_cons_zero, List.set_cons_succ]
      refine held_take 8 (.tuple #[.agg #[.slice A8 x.sl c8, .slice A9 x.cl c9], .int .i64 0]) rfl (by kernel_rfl) (by kernel_rfl) (by kernel_rfl) (fun _ _ _ h => by obtain ⟨_, _, h, _⟩ := h; cases h) (by rfl) (by intro w' hS; go_simp) (by assumption) ?_
      try simp only [Act.put, List.setIfInBounds_toArray, List.set_cons_zero, List.set_cons_succ]
      refine held_take 9 (.agg #[.slice A8 x.sl c8, .slice A9 x.cl c9]) rfl (by kernel_rfl) (by kernel_rfl) (by kernel_rfl) (fun _ _ _ h => by obtain ⟨_, _, h, _⟩ := h; cases h) (by rfl) (by intro w' hS; go_simp) (by assumption) ?_
      try simp only [Act.put, List.setIfInBounds_toArray, List.set_cons_zero, List.set_cons_succ]
      refine held_take 10 (.int .i64 0) rfl (by kernel_rfl) (by kernel_rfl) (by kernel_rfl) (fun _ _ _ h => by obtain ⟨_, _, h, _⟩ := h; cases h) (by rfl) (by intro w' hS; go_simp) (by assumption) ?_
      try simp only [Act.put, List.setIfInBounds_toArray, List.set_cons_zero, List.set_cons_succ]
      refine held_call 11 (by kernel_rfl) rfl (by rfl) (fun K hK => ?_)
      go_simp
      rw [hV.out]
      refine hK.out _ _ (SK.out _ bV.out) (fun hHeld => ?_)
      try simp only [Act.put, List.setIfInBounds_toArray, List.set_cons_zero, List.set_cons_succ]
      obtain ⟨e0, e1, f0, f1⟩ := JV.out.see
      have F8 := Lib.hid (box_put9 (c8 := c8) (c9 := c9) JV.out hKb bV.out I8.out I9.out hK8 hK9)
      clear hK8 hK9
      refine held_call 12 (by kernel_rfl) rfl (by rfl) (fun K hK => ?_)
      go_simp
      refine hK.out _ _ (SK.out _ F8.out.2.2.2) (fun hHeld => ?_)
      try simp only [Act.put, List.setIfInBounds_toArray, List.set_cons_zero, List.set_cons_succ]
      refine held_take 13 (.int .i64 0) rfl (by kernel_rfl) (by kernel_rfl) (by kernel_rfl) (fun _ _ _ h => by obtain ⟨_, _, h, _⟩ := h; cases h) (by rfl) (by intro w' hS; go_simp) (by assumption) ?_
      try simp only [Act.put, List.setIfInBounds_toArray, List.set_cons_zero, List.set_cons_succ]
      refine wpAnyH_done (by kernel_rfl) ?_ _
      refine ⟨⟨y2.heap.size, A8, c8, A9, c9, _⟩, F8.out, rfl, ?_, rfl⟩
      simp only [Act.put, List.setIfInBounds_toArray, List.set_cons_zero, List.set_cons_succ]
    · go_simp
      rw [HV1.out]
      refine hK.out _ _ (SK.out _ bV1.out) (fun hHeld => ?_)
      try simp only [Act.put, List.setIfInBounds_toArray, List.set_cons_zero, List.set_cons_succ]
      refine held_call 7 (by kernel_rfl) rfl (by rfl) (fun K hK => ?_)
      go_simp
      refine (CC.out V1 bV1.out).mono ?_
      rintro e y2 h'
      obtain ⟨A8, c8, A9, c9, rfl, o8, o9, l8, l9, hb7⟩ := tres_open2 (n := x.sl) (m := x.cl) h' HSL.out HCL.out
      have b7 := bV1.out.trans (hb7.mono bV1.out.size)
      have bV := Lib.hid b7
      have JV := Lib.hid (JV1.out.kept hb7)
      have I8 := Lib.hid o8
      have I9 := Lib.hid o9
      have hK8 : ∀ p, A8 = some p → p.block ≠ w2.heap.size := fun p hp e => by have := (l8 p hp).1; have := sV1.out; omega
      have hK9 : ∀ p, A9 = some p → p.block ≠ w2.heap.size := fun p hp e => by have := (l9 p hp).1; have := sV1.out; omega
      have hKb : w2.heap.size ≤ w2.heap.size := Nat.le_refl _
      clear o8 o9 l8 l9 hb7 b7 h'
      go_wp2_with fail
      refine hK.out _ _ (SK.out _ bV.out) (fun hHeld => ?_)
      try simp only [Act.put, List.setIfInBounds_toArray, List.set_cons_zero, List.set_cons_succ]
      refine held_take 8 (.tuple #[.agg #[.slice A8 x.sl c8, .slice A9 x.cl c9], .int .i64 0]) rfl (by kernel_rfl) (by kernel_rfl) (by kernel_rfl) (fun _ _ _ h => by obtain ⟨_, _, h, _⟩ := h; cases h) (by rfl) (by intro w' hS; go_simp) (by assumption) ?_
      try simp only [Act.put, List.setIfInBounds_toArray, List.set_cons_zero, List.set_cons_succ]
      refine held_take 9 (.agg #[.slice A8 x.sl c8, .slice A9 x.cl c9]) rfl (by kernel_rfl) (by kernel_rfl) (by kernel_rfl) (fun _ _ _ h => by obtain ⟨_, _, h, _⟩ := h; cases h) (by rfl) (by intro w' hS; go_simp) (by assumption) ?_
      try simp only [Act.put, List.setIfInBounds_toArray, List.set_cons_zero, List.set_cons_succ]
      refine held_take 10 (.int .i64 0) rfl (by kernel_rfl) (by kernel_rfl) (by kernel_rfl) (fun _ _ _ h => by obtain ⟨_, _, h, _⟩ := h; cases h) (by rfl) (by intro w' hS; go_simp) (by assumption) ?_
      try simp only [Act.put, List.setIfInBounds_toArray, List.set_cons_zero, List.set_cons_succ]
      obtain ⟨e0, e1, f0, f1⟩ := JV.out.see
      have F8 := Lib.hid (box_put9 (c8 := c8) (c9 := c9) JV.out hKb bV.out I8.out I9.out hK8 hK9)
      clear hK8 hK9
      refine held_call 12 (by kernel_rfl) rfl (by rfl) (fun K hK => ?_)
      go_simp
      refine hK.out _ _ (SK.out _ F8.out.2.2.2) (fun hHeld => ?_)
      try simp only [Act.put, List.setIfInBounds_toArray, List.set_cons_zero, List.set_cons_succ]
      refine held_take 13 (.int .i64 0) rfl (by kernel_rfl) (by kernel_rfl) (by kernel_rfl) (fun _ _ _ h => by obtain ⟨_, _, h, _⟩ := h; cases h) (by rfl) (by intro w' hS; go_simp) (by assumption) ?_
      try simp only [Act.put, List.setIfInBounds_toArray, List.set_cons_zero, List.set_cons_succ]
      refine wpAnyH_done (by kernel_rfl) ?_ _
      refine ⟨⟨w2.heap.size, A8, c8, A9, c9, _⟩, F8.out, rfl, ?_, rfl⟩
      simp only [Act.put, List.setIfInBounds_toArray, List.set_cons_zero, List.set_cons_succ]
  rintro ⟨K7, Z8, z8, Z9, z9, w4⟩ ⟨i8, i9, g7, hb4⟩
  have KC := Lib.hid (And.intro i8 i9)
  have G7 := Lib.hid (show GAt w4 K7 (.slice Z8 x.sl z8) (.slice Z9 x.cl z9) from g7)
  have b4 := Lib.hid (b2.out.trans (hb4.mono b2.out.size))
  have JX4 := Lib.hid (JX2.out.kept hb4)
  have JG4 := Lib.hid (JG2.out.kept hb4)
  clear i8 i9 g7 hb4 SK t1 HV1 JV1 bV1 sV1 CC JX2 JG2
  try simp only [Act.put, List.setIfInBounds_toArray, List.set_cons_zero, List.set_cons_succ]
  obtain ⟨r5, hr5, gs5, zr5⟩ := HM1.out w4 b4.out
  have MJ5 := Lib.hid (MJ.out r5 w4.heap.size gs5.out)
  have hr5' := hr5.out
  obtain ⟨j0, j1, -, -⟩ := JX4.out.see
  go_wp2_with fail
  clear j0 j1 hr5'
  refine MJ5.out.mono ?_
  rintro e y6 h'
  obtain ⟨U1, U2, U3, U4, rfl, GU, hb6⟩ := tres_open (n := x.sl) (m := x.cl) h' HSL.out HCL.out
  obtain ⟨w7, hw7, JU, zx, -⟩ := grid_box y6 (.slice U1 x.sl U2) (.slice U3 x.cl U4)
  have q := zr5.out.trans ((hb6.trans (zx.out.mono hb6.size)).mono zr5.out.size)
  have b7 := Lib.hid (b4.out.trans (q.mono b4.out.size))
  have JX7 := Lib.hid (JX4.out.kept q)
  have JG7 := Lib.hid (JG4.out.kept q)
  have G77 := Lib.hid (G7.out.kept q)
  have KC7 := Lib.hid (And.intro (KC.out.1.kept q) (KC.out.2.kept q))
  have KU := Lib.hid (GU.kept zx.out)
  clear h' GU hb6 q zx MJ5 JX4 JG4 G7 KC gs5 zr5 hr5 MJ
  go_upto_region 5 with (fail)
  rw [hw7.out]
  have EQ1 := tequal_any Z8 x.sl z8 x.ss Z9 x.cl z9 x.cs (some ⟨sb, so, none⟩) x.sl x.sc x.ss x.ca x.cl x.cc x.cs w7 KC7.out.1 KC7.out.2 (hsa ▸ (HX.out w7 b7.out).1.1) (HX.out w7 b7.out).1.2.1
  rw [show sameT x.ss x.cs x.ss x.cs = true by unfold sameT; rw [sameL_self, sameL_self]; rfl] at EQ1
  replace EQ1 := Lib.hid EQ1
  obtain ⟨j0, j1, -, -⟩ := JX7.out.see
  obtain ⟨c0, c1, -, -⟩ := G77.out.see
  go_wp2_with fail
  clear j0 j1 c0 c1
  refine EQ1.out.mono ?_
  rintro e w8 ⟨rfl, hb8⟩
  have b8 := Lib.hid (b7.out.trans (hb8.mono b7.out.size))
  have JX8 := Lib.hid (JX7.out.kept hb8)
  have JG8 := Lib.hid (JG7.out.kept hb8)
  have JU8 := Lib.hid (JU.out.kept hb8)
  have KU8 := Lib.hid (KU.out.kept hb8)
  clear hb8 EQ1 JX7 JG7 JU KU G77 KC7
  have EQ2 := tequal_any U1 x.sl U2 x.ss U3 x.cl U4 x.cs (some ⟨sb, so, none⟩) x.sl x.sc x.ss x.ca x.cl x.cc x.cs w8 KU8.out.1.1 KU8.out.1.2.1 (hsa ▸ (HX.out w8 b8.out).1.1) (HX.out w8 b8.out).1.2.1
  rw [show sameT x.ss x.cs x.ss x.cs = true by unfold sameT; rw [sameL_self, sameL_self]; rfl] at EQ2
  replace EQ2 := Lib.hid EQ2
  obtain ⟨j0, j1, -, -⟩ := JX8.out.see
  obtain ⟨u0, u1, -, -⟩ := JU8.out.see
  go_wp2_with fail
  clear j0 j1 u0 u1
  refine EQ2.out.mono ?_
  rintro e w9 ⟨rfl, hb9⟩
  have b9 := Lib.hid (b8.out.trans (hb9.mono b8.out.size))
  have JX9 := Lib.hid (JX8.out.kept hb9)
  have JG9 := Lib.hid (JG8.out.kept hb9)
  clear hb9 EQ2 JX8 JG8 JU8 KU8
  obtain ⟨k0, k1, -, -⟩ := JG9.out.see
  go_wp2_with fail
  clear k0 k1
  refine (RG.out w9 b9.out).mono ?_
  rintro e w10 ⟨rfl, hb10⟩
  have b10 := Lib.hid (b9.out.trans (hb10.mono b9.out.size))
  have JX10 := Lib.hid (JX9.out.kept hb10)
  have JG10 := Lib.hid (JG9.out.kept hb10)
  clear hb10 JX9 JG9
  go_wp2_with fail
  refine (awake09_any _).mono ?_
  rintro e w20 ⟨rfl, hb20⟩
  have b20 := Lib.hid (b10.out.trans (hb20.mono b10.out.size))
  clear hb20
  go_wp2_with fail
  go_ret
  exact ⟨rfl, b20.out⟩

set_option maxRecDepth 100000 in
set_option maxHeartbeats 32000000 in
theorem whole_okb (x g : TV) (k n P M : Nat) (w : World) (hx : Good x w) (hg : Good g w) (hs : small9 [x, g] = true) (hq : rightT x.ss x.cl = true) (hN : NumT x.ss k n P M) (hq2 : rightT g.ss g.cl = true) (hq3 : sameL g.ss x.ss = false) :
    Calls Try.prog 7 #[.agg #[.slice x.sa x.sl x.sc, .slice x.ca x.cl x.cc], .agg #[.slice g.sa g.sl g.sc, .slice g.ca g.cl g.cc], .int .i64 k] w fun e w' => e = .returned (.bool true) ∧ Below w.heap.size w w' := by
  have hw9 := small9_le hs
  have hxl : x.cl ≤ 1000 := by have := wtsM_mem (t := x) (ts := [x, g]) (by simp); omega
  have hgl : g.cl ≤ 1000 := by have := wtsM_mem (t := g) (ts := [x, g]) (by simp); omega
  have hxo : okP (pr x) = true := by rw [hx.ok]; exact hq
  obtain ⟨w1f, w2f⟩ := whole_facts (x := pr x) hN hxo
  have MC := fun w1 (hb : Below w.heap.size w w1) => mcut_any x k 0 n w1 (hx.kept hb) (by omega)
  rw [w1f] at MC
  replace MC : ∀ w1, Below w.heap.size w w1 → Calls _ _ _ w1 (TRes w1 (0, (x.ss, x.cs))) := MC
  have MJ := fun (w1 : World) (K : Nat) (hG : Gsl w1 (some ⟨K, 0, none⟩) 1 1 [x]) => mjoin_any k _ 1 1 [x] w1 hG (by show x.cl + 0 ≤ 1000; omega)
  rw [show List.map pr [x] = [pr x] from rfl, w2f] at MJ
  have RG := fun w1 (hb : Below w.heap.size w w1) => right9_any g.sa g.sl g.sc g.ss g.ca g.cl g.cc w1 (hg.kept hb).1.1 (by omega)
  rw [hq2] at RG
  replace RG := Lib.hid RG
  have hkl : k < x.sl := by have h1 : k < x.ss.length := hN.len; have := hx.slen; omega
  obtain ⟨sb, so, hsa, hsc⟩ := ints_cell hx.1.1 (by omega)
  have HSC := Lib.hid (fun w1 (hb : Below w.heap.size w w1) => cell_later hb (hsc k hkl))
  rw [hN.xE] at HSC
  have HX := Lib.hid (fun w1 (hb : Below w.heap.size w w1) => hx.kept hb)
  have HG := Lib.hid (fun w1 (hb : Below w.heap.size w w1) => hg.kept hb)
  have hkI : (k : Int) < x.sl := by omega
  have hk0 : decide ((k : Int) < 0) = false := decide_eq_false (by omega)
  have hk1 : decide (x.sl ≤ k) = false := decide_eq_false (by omega)
  have HSL := Lib.hid hx.slen
  have HCL := Lib.hid hx.len
  have bx2 := Lib.hid hx.1.2.2.1
  have RX := fun w1 (hb : Below w.heap.size w w1) => right9_any x.sa x.sl x.sc x.ss x.ca x.cl x.cc w1 (hx.kept hb).1.1 (by have := hx.1.2.2.2; omega)
  rw [hq] at RX
  replace RX := Lib.hid RX
  obtain ⟨wA, hwA, J1, z1, n1⟩ := grid_box w (.slice x.sa x.sl x.sc) (.slice x.ca x.cl x.cc)
  obtain ⟨wB, hwB, J2, z2, n2⟩ := grid_box wA (.slice g.sa g.sl g.sc) (.slice g.ca g.cl g.cc)
  rw [n1.out] at J2
  have z := Lib.hid (z1.out.trans (z2.out.mono z1.out.size))
  have J := Lib.hid (J1.out.kept z2.out)
  obtain ⟨r1, hr1, gs1, zr1⟩ := gsl_made2 wB x g (hx.kept z.out) (hg.kept z.out)
  have SM := small9_any _ 2 2 _ r1 gs1.out.at_
  rw [hs] at SM
  have SM1 := Lib.hid SM
  have HM1 := fun w1 (hb : Below w.heap.size w w1) => gsl_made1 w1 x (hx.kept hb)
  rw [hsa] at MC HM1 ⊢
  simp only [hsa] at hwA J hr1
  simp only [hsa] at RX
  replace MC := Lib.hid MC
  replace MJ := Lib.hid MJ
  replace HM1 := Lib.hid HM1
  have HQ3 := Lib.hid hq3
  clear hq3
  clear SM hs hx hg hq hw9 hxo w1f w2f hsc hN hq2
  obtain ⟨j0, j1, -, -⟩ := J.out.see
  obtain ⟨k0, k1, -, -⟩ := J2.out.see
  have hr1' := hr1.out
  go_enter Try.func7, Try.ntmps7
  go_upto_region 1 with (fail)
  rw [hwA.out, hwB.out]
  go_wp2_with fail
  clear hr1' j0 j1 k0 k1
  refine SM1.out.mono ?_
  rintro e w1 ⟨rfl, hb1⟩
  have q1 := zr1.out.trans (hb1.mono zr1.out.size)
  have b1 := Lib.hid (z.out.trans (q1.mono z.out.size))
  have JX := Lib.hid (J.out.kept q1)
  have JG := Lib.hid (J2.out.kept q1)
  clear hb1 q1 SM1 J1 J J2 gs1 zr1 hr1
  obtain ⟨j0, j1, -, -⟩ := JX.out.see
  go_wp2_with fail
  clear j0 j1
  refine (RX.out w1 b1.out).mono ?_
  rintro e w2 ⟨rfl, hb2⟩
  have b2 := Lib.hid (b1.out.trans (hb2.mono b1.out.size))
  have JX2 := Lib.hid (JX.out.kept hb2)
  have JG2 := Lib.hid (JG.out.kept hb2)
  clear hb2 JX JG
  obtain ⟨j0, j1, -, -⟩ := JX2.out.see
  go_wp2_with fail
  clear j0 j1
  have SK := Lib.hid (fun w' (hb : Below w2.heap.size w2 w') => (show w'.cell? ⟨w.heap.size, 0, none⟩ = some (.slice (some ⟨sb, so, none⟩) x.sl x.sc) ∧ w'.cell? ⟨w.heap.size, 1, none⟩ = some (.slice x.ca x.cl x.cc) ∧ w'.cell? ⟨sb, so + k, none⟩ = some (.int .i64 n) from ⟨(JX2.out.kept hb).see.1, (JX2.out.kept hb).see.2.1, HSC.out w' (b2.out.trans (hb.mono b2.out.size))⟩))
  have t1 := Lib.hid (show Below w2.heap.size w2 w2.drew from (Below.refl _ _).drew)
  obtain ⟨V1, hV1⟩ : ∃ V1, (w2.alloc (.cells #[.slice none 0 0, .slice none 0 0] 29)).drew = V1 := ⟨_, rfl⟩
  have HV1 := Lib.hid hV1
  have JV1 := Lib.hid (show GAt V1 w2.heap.size (.slice none 0 0) (.slice none 0 0) by rw [← hV1]; exact World.alloc_heap_new w2 _)
  have bV1 := Lib.hid (show Below w2.heap.size w2 V1 by rw [← hV1]; exact ((Below.refl _ _).alloc (Nat.le_refl _) _).drew)
  have sV1 := Lib.hid (show w2.heap.size < V1.heap.size by rw [← hV1]; show w2.heap.size < (w2.alloc _).heap.size; simp)
  have CC := Lib.hid (fun wv (hb : Below w2.heap.size w2 wv) => MC.out wv (b2.out.trans (hb.mono b2.out.size)))
  clear hV1 MC
  go_upto_region 3 with (fail)
  refine wp_cutP (ι := BoxQ) (BoxP w2 x.sl x.ss x.cl x.cs) (fun q a => (((((((((((((a.put (some 38) (.agg #[.slice (some ⟨sb, so, none⟩) x.sl x.sc, .slice x.ca x.cl x.cc])).put (some 39) (.int .i64 k)).put (some 40) (.pointer (some ⟨w.heap.size, 0, none⟩))).put (some 41) (.slice (some ⟨sb, so, none⟩) x.sl x.sc)).put (some 42) (.int .i64 k)).put (some 43) (.pointer (some ⟨sb, so + k, none⟩))).put (some 44) (.int .i64 n)).put (some 45) (.tuple #[.agg #[.slice q.A8 x.sl q.c8, .slice q.A9 x.cl q.c9], .int .i64 0])).put (some 37) (.tuple #[.agg #[.slice q.A8 x.sl q.c8, .slice q.A9 x.cl q.c9], .int .i64 0])).put (some 46) (.agg #[.slice q.A8 x.sl q.c8, .slice q.A9 x.cl q.c9])).put (some 47) (.int .i64 0)).put (some 7) (.pointer (some ⟨q.B, 0, none⟩))).put (some 8) (.int .i64 0))) (fun q => q.W) ?_ ?_
  · refine wp_region_held_drew (S := fun w' => w'.cell? ⟨w.heap.size, 0, none⟩ = some (.slice (some ⟨sb, so, none⟩) x.sl x.sc) ∧ w'.cell? ⟨w.heap.size, 1, none⟩ = some (.slice x.ca x.cl x.cc) ∧ w'.cell? ⟨sb, so + k, none⟩ = some (.int .i64 n)) (by kernel_rfl) (SK.out _ t1.out) (fun hHeld => ?_)
    refine held_take 0 (.agg #[.slice (some ⟨sb, so, none⟩) x.sl x.sc, .slice x.ca x.cl x.cc]) rfl (by kernel_rfl) (by kernel_rfl) (by kernel_rfl) (fun _ _ _ h => by obtain ⟨_, _, h, _⟩ := h; cases h) (by rfl) (by intro w' hS; go_simp) (by assumption) ?_
    try simp only [Act.put, List.setIfInBounds_toArray, List.set_cons_zero, List.set_cons_succ]
    refine held_take 1 (.int .i64 k) rfl (by kernel_rfl) (by kernel_rfl) (by kernel_rfl) (fun _ _ _ h => by obtain ⟨_, _, h, _⟩ := h; cases h) (by rfl) (by intro w' hS; go_simp) (by assumption) ?_
    try simp only [Act.put, List.setIfInBounds_toArray, List.set_cons_zero, List.set_cons_succ]
    refine held_take 2 (.pointer (some ⟨w.heap.size, 0, none⟩)) rfl (by kernel_rfl) (by kernel_rfl) (by kernel_rfl) (fun _ _ _ h => by obtain ⟨_, _, h, _⟩ := h; cases h) (by rfl) (by intro w' hS; go_simp) (by assumption) ?_
    try simp only [Act.put, List.setIfInBounds_toArray, List.set_cons_zero, List.set_cons_succ]
    refine held_take 3 (.slice (some ⟨sb, so, none⟩) x.sl x.sc) rfl (by kernel_rfl) (by kernel_rfl) (by kernel_rfl) (fun _ _ _ h => by obtain ⟨_, _, h, _⟩ := h; cases h) (by rfl) (by intro w' hS; go_simp) (by assumption) ?_
    try simp only [Act.put, List.setIfInBounds_toArray, List.set_cons_zero, List.set_cons_succ]
    refine held_take 4 (.int .i64 k) rfl (by kernel_rfl) (by kernel_rfl) (by kernel_rfl) (fun _ _ _ h => by obtain ⟨_, _, h, _⟩ := h; cases h) (by rfl) (by intro w' hS; go_simp) (by assumption) ?_
    try simp only [Act.put, List.setIfInBounds_toArray, List.set_cons_zero, List.set_cons_succ]
    refine held_take 5 (.pointer (some ⟨sb, so + k, none⟩)) rfl (by kernel_rfl) (by kernel_rfl) (by kernel_rfl) (fun _ _ _ h => by obtain ⟨_, _, h, _⟩ := h; cases h) (by rfl) (by intro w' hS; go_simp) (by assumption) ?_
    try simp only [Act.put, List.setIfInBounds_toArray, List.set_cons_zero, List.set_cons_succ]
    refine held_take 6 (.int .i64 n) rfl (by kernel_rfl) (by kernel_rfl) (by kernel_rfl) (fun _ _ _ h => by obtain ⟨_, _, h, _⟩ := h; cases h) (by rfl) (by intro w' hS; go_simp) (by assumption) ?_
    try simp only [Act.put, List.setIfInBounds_toArray, List.set_cons_zero, List.set_cons_succ]
    refine held_two 7 11 (by kernel_rfl) rfl rfl (by rfl) (by rfl) (fun K hK => ?_) (fun K hK => ?_)
    · go_simp
      refine (CC.out w2.drew t1.out).mono ?_
      rintro e y2 h'
      obtain ⟨A8, c8, A9, c9, rfl, o8, o9, l8, l9, hb7⟩ := tres_open2 (n := x.sl) (m := x.cl) h' HSL.out HCL.out
      have b7 := t1.out.trans (hb7.mono t1.out.size)
      obtain ⟨V, hV, JV, zV, nV⟩ := grid_box y2 (.slice none 0 0) (.slice none 0 0)
      have b7h := Lib.hid b7
      have bV := Lib.hid (b7.trans (zV.out.mono b7.size))
      have I8 := Lib.hid (o8.kept zV.out)
      have I9 := Lib.hid (o9.kept zV.out)
      have hK8 : ∀ p, A8 = some p → p.block ≠ y2.heap.size := fun p hp e => by have := (l8 p hp).2; omega
      have hK9 : ∀ p, A9 = some p → p.block ≠ y2.heap.size := fun p hp e => by have := (l9 p hp).2; omega
      have hKb : w2.heap.size ≤ y2.heap.size := b7.size
      clear o8 o9 l8 l9 hb7 b7 h'
      go_wp2_with fail
      refine hK.out _ _ (SK.out _ b7h.out) (fun hHeld => ?_)
      try simp only [Act.put, List.setIfInBounds_toArray, List.set_cons_zero, List.set_cons_succ]
      refine held_take 8 (.tuple #[.agg #[.slice A8 x.sl c8, .slice A9 x.cl c9], .int .i64 0]) rfl (by kernel_rfl) (by kernel_rfl) (by kernel_rfl) (fun _ _ _ h => by obtain ⟨_, _, h, _⟩ := h; cases h) (by rfl) (by intro w' hS; go_simp) (by assumption) ?_
      try simp only [Act.put, List.setIfInBounds_toArray, List.set_cons_zero, List.set_cons_succ]
      refine held_take 9 (.agg #[.slice A8 x.sl c8, .slice A9 x.cl c9]) rfl (by kernel_rfl) (by kernel_rfl) (by kernel_rfl) (fun _ _ _ h => by obtain ⟨_, _, h, _⟩ := h; cases h) (by rfl) (by intro w' hS; go_simp) (by assumption) ?_
      try simp only [Act.put, List.setIfInBounds_toArray, List.set_cons_zero, List.set_cons_succ]
      refine held_take 10 (.int .i64 0) rfl (by kernel_rfl) (by kernel_rfl) (by kernel_rfl) (fun _ _ _ h => by obtain ⟨_, _, h, _⟩ := h; cases h) (by rfl) (by intro w' hS; go_simp) (by assumption) ?_
      try simp only [Act.put, List.setIfInBounds_toArray, List.set_cons_zero, List.set_cons_succ]
      refine held_call 11 (by kernel_rfl) rfl (by rfl) (fun K hK => ?_)
      go_simp
      rw [hV.out]
      refine hK.out _ _ (SK.out _ bV.out) (fun hHeld => ?_)
      try simp only [Act.put, List.setIfInBounds_toArray, List.set_cons_zero, List.set_cons_succ]
      obtain ⟨e0, e1, f0, f1⟩ := JV.out.see
      have F8 := Lib.hid (box_put9 (c8 := c8) (c9 := c9) JV.out hKb bV.out I8.out I9.out hK8 hK9)
      clear hK8 hK9
      refine held_call 12 (by kernel_rfl) rfl (by rfl) (fun K hK => ?_)
      go_simp
      refine hK.out _ _ (SK.out _ F8.out.2.2.2) (fun hHeld => ?_)
      try simp only [Act.put, List.setIfInBounds_toArray, List.set_cons_zero, List.set_cons_succ]
      refine held_take 13 (.int .i64 0) rfl (by kernel_rfl) (by kernel_rfl) (by kernel_rfl) (fun _ _ _ h => by obtain ⟨_, _, h, _⟩ := h; cases h) (by rfl) (by intro w' hS; go_simp) (by assumption) ?_
      try simp only [Act.put, List.setIfInBounds_toArray, List.set_cons_zero, List.set_cons_succ]
      refine wpAnyH_done (by kernel_rfl) ?_ _
      refine ⟨⟨y2.heap.size, A8, c8, A9, c9, _⟩, F8.out, rfl, ?_, rfl⟩
      simp only [Act.put, List.setIfInBounds_toArray, List.set_cons_zero, List.set_cons_succ]
    · go_simp
      rw [HV1.out]
      refine hK.out _ _ (SK.out _ bV1.out) (fun hHeld => ?_)
      try simp only [Act.put, List.setIfInBounds_toArray, List.set_cons_zero, List.set_cons_succ]
      refine held_call 7 (by kernel_rfl) rfl (by rfl) (fun K hK => ?_)
      go_simp
      refine (CC.out V1 bV1.out).mono ?_
      rintro e y2 h'
      obtain ⟨A8, c8, A9, c9, rfl, o8, o9, l8, l9, hb7⟩ := tres_open2 (n := x.sl) (m := x.cl) h' HSL.out HCL.out
      have b7 := bV1.out.trans (hb7.mono bV1.out.size)
      have bV := Lib.hid b7
      have JV := Lib.hid (JV1.out.kept hb7)
      have I8 := Lib.hid o8
      have I9 := Lib.hid o9
      have hK8 : ∀ p, A8 = some p → p.block ≠ w2.heap.size := fun p hp e => by have := (l8 p hp).1; have := sV1.out; omega
      have hK9 : ∀ p, A9 = some p → p.block ≠ w2.heap.size := fun p hp e => by have := (l9 p hp).1; have := sV1.out; omega
      have hKb : w2.heap.size ≤ w2.heap.size := Nat.le_refl _
      clear o8 o9 l8 l9 hb7 b7 h'
      go_wp2_with fail
      refine hK.out _ _ (SK.out _ bV.out) (fun hHeld => ?_)
      try simp only [Act.put, List.setIfInBounds_toArray, List.set_cons_zero, List.set_cons_succ]
      refine held_take 8 (.tuple #[.agg #[.slice A8 x.sl c8, .slice A9 x.cl c9], .int .i64 0]) rfl (by kernel_rfl) (by kernel_rfl) (by kernel_rfl) (fun _ _ _ h => by obtain ⟨_, _, h, _⟩ := h; cases h) (by rfl) (by intro w' hS; go_simp) (by assumption) ?_
      try simp only [Act.put, List.setIfInBounds_toArray, List.set_cons_zero, List.set_cons_succ]
      refine held_take 9 (.agg #[.slice A8 x.sl c8, .slice A9 x.cl c9]) rfl (by kernel_rfl) (by kernel_rfl) (by kernel_rfl) (fun _ _ _ h => by obtain ⟨_, _, h, _⟩ := h; cases h) (by rfl) (by intro w' hS; go_simp) (by assumption) ?_
      try simp only [Act.put, List.setIfInBounds_toArray, List.set_cons_zero, List.set_cons_succ]
      refine held_take 10 (.int .i64 0) rfl (by kernel_rfl) (by kernel_rfl) (by kernel_rfl) (fun _ _ _ h => by obtain ⟨_, _, h, _⟩ := h; cases h) (by rfl) (by intro w' hS; go_simp) (by assumption) ?_
      try simp only [Act.put, List.setIfInBounds_toArray, List.set_cons_zero, List.set_cons_succ]
      obtain ⟨e0, e1, f0, f1⟩ := JV.out.see
      have F8 := Lib.hid (box_put9 (c8 := c8) (c9 := c9) JV.out hKb bV.out I8.out I9.out hK8 hK9)
      clear hK8 hK9
      refine held_call 12 (by kernel_rfl) rfl (by rfl) (fun K hK => ?_)
      go_simp
      refine hK.out _ _ (SK.out _ F8.out.2.2.2) (fun hHeld => ?_)
      try simp only [Act.put, List.setIfInBounds_toArray, List.set_cons_zero, List.set_cons_succ]
      refine held_take 13 (.int .i64 0) rfl (by kernel_rfl) (by kernel_rfl) (by kernel_rfl) (fun _ _ _ h => by obtain ⟨_, _, h, _⟩ := h; cases h) (by rfl) (by intro w' hS; go_simp) (by assumption) ?_
      try simp only [Act.put, List.setIfInBounds_toArray, List.set_cons_zero, List.set_cons_succ]
      refine wpAnyH_done (by kernel_rfl) ?_ _
      refine ⟨⟨w2.heap.size, A8, c8, A9, c9, _⟩, F8.out, rfl, ?_, rfl⟩
      simp only [Act.put, List.setIfInBounds_toArray, List.set_cons_zero, List.set_cons_succ]
  rintro ⟨K7, Z8, z8, Z9, z9, w4⟩ ⟨i8, i9, g7, hb4⟩
  have KC := Lib.hid (And.intro i8 i9)
  have G7 := Lib.hid (show GAt w4 K7 (.slice Z8 x.sl z8) (.slice Z9 x.cl z9) from g7)
  have b4 := Lib.hid (b2.out.trans (hb4.mono b2.out.size))
  have JX4 := Lib.hid (JX2.out.kept hb4)
  have JG4 := Lib.hid (JG2.out.kept hb4)
  clear i8 i9 g7 hb4 SK t1 HV1 JV1 bV1 sV1 CC JX2 JG2
  try simp only [Act.put, List.setIfInBounds_toArray, List.set_cons_zero, List.set_cons_succ]
  obtain ⟨r5, hr5, gs5, zr5⟩ := HM1.out w4 b4.out
  have MJ5 := Lib.hid (MJ.out r5 w4.heap.size gs5.out)
  have hr5' := hr5.out
  obtain ⟨j0, j1, -, -⟩ := JX4.out.see
  go_wp2_with fail
  clear j0 j1 hr5'
  refine MJ5.out.mono ?_
  rintro e y6 h'
  obtain ⟨U1, U2, U3, U4, rfl, GU, hb6⟩ := tres_open (n := x.sl) (m := x.cl) h' HSL.out HCL.out
  obtain ⟨w7, hw7, JU, zx, -⟩ := grid_box y6 (.slice U1 x.sl U2) (.slice U3 x.cl U4)
  have q := zr5.out.trans ((hb6.trans (zx.out.mono hb6.size)).mono zr5.out.size)
  have b7 := Lib.hid (b4.out.trans (q.mono b4.out.size))
  have JX7 := Lib.hid (JX4.out.kept q)
  have JG7 := Lib.hid (JG4.out.kept q)
  have G77 := Lib.hid (G7.out.kept q)
  have KC7 := Lib.hid (And.intro (KC.out.1.kept q) (KC.out.2.kept q))
  have KU := Lib.hid (GU.kept zx.out)
  clear h' GU hb6 q zx MJ5 JX4 JG4 G7 KC gs5 zr5 hr5 MJ
  go_upto_region 5 with (fail)
  rw [hw7.out]
  have EQ1 := tequal_any Z8 x.sl z8 x.ss Z9 x.cl z9 x.cs (some ⟨sb, so, none⟩) x.sl x.sc x.ss x.ca x.cl x.cc x.cs w7 KC7.out.1 KC7.out.2 (hsa ▸ (HX.out w7 b7.out).1.1) (HX.out w7 b7.out).1.2.1
  rw [show sameT x.ss x.cs x.ss x.cs = true by unfold sameT; rw [sameL_self, sameL_self]; rfl] at EQ1
  replace EQ1 := Lib.hid EQ1
  obtain ⟨j0, j1, -, -⟩ := JX7.out.see
  obtain ⟨c0, c1, -, -⟩ := G77.out.see
  go_wp2_with fail
  clear j0 j1 c0 c1
  refine EQ1.out.mono ?_
  rintro e w8 ⟨rfl, hb8⟩
  have b8 := Lib.hid (b7.out.trans (hb8.mono b7.out.size))
  have JX8 := Lib.hid (JX7.out.kept hb8)
  have JG8 := Lib.hid (JG7.out.kept hb8)
  have JU8 := Lib.hid (JU.out.kept hb8)
  have KU8 := Lib.hid (KU.out.kept hb8)
  clear hb8 EQ1 JX7 JG7 JU KU G77 KC7
  have EQ2 := tequal_any U1 x.sl U2 x.ss U3 x.cl U4 x.cs (some ⟨sb, so, none⟩) x.sl x.sc x.ss x.ca x.cl x.cc x.cs w8 KU8.out.1.1 KU8.out.1.2.1 (hsa ▸ (HX.out w8 b8.out).1.1) (HX.out w8 b8.out).1.2.1
  rw [show sameT x.ss x.cs x.ss x.cs = true by unfold sameT; rw [sameL_self, sameL_self]; rfl] at EQ2
  replace EQ2 := Lib.hid EQ2
  obtain ⟨j0, j1, -, -⟩ := JX8.out.see
  obtain ⟨u0, u1, -, -⟩ := JU8.out.see
  go_wp2_with fail
  clear j0 j1 u0 u1
  refine EQ2.out.mono ?_
  rintro e w9 ⟨rfl, hb9⟩
  have b9 := Lib.hid (b8.out.trans (hb9.mono b8.out.size))
  have JX9 := Lib.hid (JX8.out.kept hb9)
  have JG9 := Lib.hid (JG8.out.kept hb9)
  clear hb9 EQ2 JX8 JG8 JU8 KU8
  obtain ⟨k0, k1, -, -⟩ := JG9.out.see
  go_wp2_with fail
  clear k0 k1
  refine (RG.out w9 b9.out).mono ?_
  rintro e w10 ⟨rfl, hb10⟩
  have b10 := Lib.hid (b9.out.trans (hb10.mono b9.out.size))
  have JX10 := Lib.hid (JX9.out.kept hb10)
  have JG10 := Lib.hid (JG9.out.kept hb10)
  clear hb10 JX9 JG9
  have SE := same_any g.sa g.sl g.sc g.ss (some ⟨sb, so, none⟩) x.sl x.sc x.ss w10 (HG.out w10 b10.out).1.1 (hsa ▸ (HX.out w10 b10.out).1.1)
  rw [HQ3.out] at SE
  replace SE := Lib.hid SE
  obtain ⟨j0, j1, -, -⟩ := JX10.out.see
  obtain ⟨k0, k1, -, -⟩ := JG10.out.see
  go_wp2_with fail
  clear j0 j1 k0 k1
  refine SE.out.mono ?_
  rintro e w11 ⟨rfl, nq, hw11⟩
  have q := (show Below w10.heap.size w10 w11 by rw [hw11]; exact below_drewN' (Below.refl _ _) nq)
  have b11 := Lib.hid (b10.out.trans (q.mono b10.out.size))
  have JX11 := Lib.hid (JX10.out.kept q)
  have JG11 := Lib.hid (JG10.out.kept q)
  clear q hw11 SE JX10 JG10
  go_wp2_with fail
  refine (awake09_any _).mono ?_
  rintro e w20 ⟨rfl, hb20⟩
  have b20 := Lib.hid (b11.out.trans (hb20.mono b11.out.size))
  clear hb20
  go_wp2_with fail
  go_ret
  exact ⟨rfl, b20.out⟩

set_option maxRecDepth 100000 in
set_option maxHeartbeats 32000000 in
theorem whole_oko (x g : TV) (k n P M : Nat) (w : World) (hx : Good x w) (hg : Good g w) (hs : small9 [x, g] = true) (hq : rightT x.ss x.cl = true) (hN : NumT x.ss k n P M) (hq2 : rightT g.ss g.cl = true) (hq3 : g.ss = x.ss) :
    Calls Try.prog 7 #[.agg #[.slice x.sa x.sl x.sc, .slice x.ca x.cl x.cc], .agg #[.slice g.sa g.sl g.sc, .slice g.ca g.cl g.cc], .int .i64 k] w fun e w' => e = .returned (.bool true) ∧ Below w.heap.size w w' := by
  have hw9 := small9_le hs
  have hxl : x.cl ≤ 1000 := by have := wtsM_mem (t := x) (ts := [x, g]) (by simp); omega
  have hgl : g.cl ≤ 1000 := by have := wtsM_mem (t := g) (ts := [x, g]) (by simp); omega
  have hxo : okP (pr x) = true := by rw [hx.ok]; exact hq
  obtain ⟨w1f, w2f⟩ := whole_facts (x := pr x) hN hxo
  have MC := fun w1 (hb : Below w.heap.size w w1) => mcut_any x k 0 n w1 (hx.kept hb) (by omega)
  rw [w1f] at MC
  replace MC : ∀ w1, Below w.heap.size w w1 → Calls _ _ _ w1 (TRes w1 (0, (x.ss, x.cs))) := MC
  have MJ := fun (w1 : World) (K : Nat) (hG : Gsl w1 (some ⟨K, 0, none⟩) 1 1 [x]) => mjoin_any k _ 1 1 [x] w1 hG (by show x.cl + 0 ≤ 1000; omega)
  rw [show List.map pr [x] = [pr x] from rfl, w2f] at MJ
  have RG := fun w1 (hb : Below w.heap.size w w1) => right9_any g.sa g.sl g.sc g.ss g.ca g.cl g.cc w1 (hg.kept hb).1.1 (by omega)
  rw [hq2] at RG
  replace RG := Lib.hid RG
  have hkl : k < x.sl := by have h1 : k < x.ss.length := hN.len; have := hx.slen; omega
  obtain ⟨sb, so, hsa, hsc⟩ := ints_cell hx.1.1 (by omega)
  have HSC := Lib.hid (fun w1 (hb : Below w.heap.size w w1) => cell_later hb (hsc k hkl))
  rw [hN.xE] at HSC
  have HX := Lib.hid (fun w1 (hb : Below w.heap.size w w1) => hx.kept hb)
  have HG := Lib.hid (fun w1 (hb : Below w.heap.size w w1) => hg.kept hb)
  have hkI : (k : Int) < x.sl := by omega
  have hk0 : decide ((k : Int) < 0) = false := decide_eq_false (by omega)
  have hk1 : decide (x.sl ≤ k) = false := decide_eq_false (by omega)
  have HSL := Lib.hid hx.slen
  have HCL := Lib.hid hx.len
  have bx2 := Lib.hid hx.1.2.2.1
  have hgo : okP (pr g) = true := by rw [hg.ok]; exact hq2
  obtain ⟨w3f, w4f⟩ := whole_backs (x := pr x) (g := pr g) hN hxo hgo hq3
  have CBk := fun w1 (hb : Below w.heap.size w w1) => cback_any x g k 0 n w1 (hx.kept hb) (hg.kept hb) hxl
  rw [w3f] at CBk
  replace CBk : ∀ w1, Below w.heap.size w w1 → Calls _ _ _ w1 (TRes w1 (0, (g.ss, g.cs))) := CBk
  have JBk := fun (w1 : World) (K : Nat) (hG : Gsl w1 (some ⟨K, 0, none⟩) 1 1 [x]) (hb : Below w.heap.size w w1) => jback_any k g _ 1 1 [x] w1 hG (by omega) (hg.kept hb) (by show x.cl + 0 ≤ 1000; omega) hgl
  rw [show List.map pr [x] = [pr x] from rfl, w4f] at JBk
  replace JBk := Lib.hid JBk
  have HGSL := Lib.hid hg.slen
  have HGCL := Lib.hid hg.len
  have RX := fun w1 (hb : Below w.heap.size w w1) => right9_any x.sa x.sl x.sc x.ss x.ca x.cl x.cc w1 (hx.kept hb).1.1 (by have := hx.1.2.2.2; omega)
  rw [hq] at RX
  replace RX := Lib.hid RX
  obtain ⟨wA, hwA, J1, z1, n1⟩ := grid_box w (.slice x.sa x.sl x.sc) (.slice x.ca x.cl x.cc)
  obtain ⟨wB, hwB, J2, z2, n2⟩ := grid_box wA (.slice g.sa g.sl g.sc) (.slice g.ca g.cl g.cc)
  rw [n1.out] at J2
  have z := Lib.hid (z1.out.trans (z2.out.mono z1.out.size))
  have J := Lib.hid (J1.out.kept z2.out)
  obtain ⟨r1, hr1, gs1, zr1⟩ := gsl_made2 wB x g (hx.kept z.out) (hg.kept z.out)
  have SM := small9_any _ 2 2 _ r1 gs1.out.at_
  rw [hs] at SM
  have SM1 := Lib.hid SM
  have HM1 := fun w1 (hb : Below w.heap.size w w1) => gsl_made1 w1 x (hx.kept hb)
  rw [hsa] at MC HM1 CBk ⊢
  simp only [hsa] at hwA J hr1
  simp only [hsa] at RX
  replace MC := Lib.hid MC
  replace MJ := Lib.hid MJ
  replace HM1 := Lib.hid HM1
  replace CBk := Lib.hid CBk
  have HQ3 := Lib.hid (show sameL g.ss x.ss = true by rw [hq3, sameL_self])
  clear SM hs hx hg hq hw9 hxo w1f w2f hsc hN hq2 hq3 hgo w3f w4f 
  obtain ⟨j0, j1, -, -⟩ := J.out.see
  obtain ⟨k0, k1, -, -⟩ := J2.out.see
  have hr1' := hr1.out
  go_enter Try.func7, Try.ntmps7
  go_upto_region 1 with (fail)
  rw [hwA.out, hwB.out]
  go_wp2_with fail
  clear hr1' j0 j1 k0 k1
  refine SM1.out.mono ?_
  rintro e w1 ⟨rfl, hb1⟩
  have q1 := zr1.out.trans (hb1.mono zr1.out.size)
  have b1 := Lib.hid (z.out.trans (q1.mono z.out.size))
  have JX := Lib.hid (J.out.kept q1)
  have JG := Lib.hid (J2.out.kept q1)
  clear hb1 q1 SM1 J1 J J2 gs1 zr1 hr1
  obtain ⟨j0, j1, -, -⟩ := JX.out.see
  go_wp2_with fail
  clear j0 j1
  refine (RX.out w1 b1.out).mono ?_
  rintro e w2 ⟨rfl, hb2⟩
  have b2 := Lib.hid (b1.out.trans (hb2.mono b1.out.size))
  have JX2 := Lib.hid (JX.out.kept hb2)
  have JG2 := Lib.hid (JG.out.kept hb2)
  clear hb2 JX JG
  obtain ⟨j0, j1, -, -⟩ := JX2.out.see
  go_wp2_with fail
  clear j0 j1
  have SK := Lib.hid (fun w' (hb : Below w2.heap.size w2 w') => (show w'.cell? ⟨w.heap.size, 0, none⟩ = some (.slice (some ⟨sb, so, none⟩) x.sl x.sc) ∧ w'.cell? ⟨w.heap.size, 1, none⟩ = some (.slice x.ca x.cl x.cc) ∧ w'.cell? ⟨sb, so + k, none⟩ = some (.int .i64 n) from ⟨(JX2.out.kept hb).see.1, (JX2.out.kept hb).see.2.1, HSC.out w' (b2.out.trans (hb.mono b2.out.size))⟩))
  have t1 := Lib.hid (show Below w2.heap.size w2 w2.drew from (Below.refl _ _).drew)
  obtain ⟨V1, hV1⟩ : ∃ V1, (w2.alloc (.cells #[.slice none 0 0, .slice none 0 0] 29)).drew = V1 := ⟨_, rfl⟩
  have HV1 := Lib.hid hV1
  have JV1 := Lib.hid (show GAt V1 w2.heap.size (.slice none 0 0) (.slice none 0 0) by rw [← hV1]; exact World.alloc_heap_new w2 _)
  have bV1 := Lib.hid (show Below w2.heap.size w2 V1 by rw [← hV1]; exact ((Below.refl _ _).alloc (Nat.le_refl _) _).drew)
  have sV1 := Lib.hid (show w2.heap.size < V1.heap.size by rw [← hV1]; show w2.heap.size < (w2.alloc _).heap.size; simp)
  have CC := Lib.hid (fun wv (hb : Below w2.heap.size w2 wv) => MC.out wv (b2.out.trans (hb.mono b2.out.size)))
  clear hV1 MC
  go_upto_region 3 with (fail)
  refine wp_cutP (ι := BoxQ) (BoxP w2 x.sl x.ss x.cl x.cs) (fun q a => (((((((((((((a.put (some 38) (.agg #[.slice (some ⟨sb, so, none⟩) x.sl x.sc, .slice x.ca x.cl x.cc])).put (some 39) (.int .i64 k)).put (some 40) (.pointer (some ⟨w.heap.size, 0, none⟩))).put (some 41) (.slice (some ⟨sb, so, none⟩) x.sl x.sc)).put (some 42) (.int .i64 k)).put (some 43) (.pointer (some ⟨sb, so + k, none⟩))).put (some 44) (.int .i64 n)).put (some 45) (.tuple #[.agg #[.slice q.A8 x.sl q.c8, .slice q.A9 x.cl q.c9], .int .i64 0])).put (some 37) (.tuple #[.agg #[.slice q.A8 x.sl q.c8, .slice q.A9 x.cl q.c9], .int .i64 0])).put (some 46) (.agg #[.slice q.A8 x.sl q.c8, .slice q.A9 x.cl q.c9])).put (some 47) (.int .i64 0)).put (some 7) (.pointer (some ⟨q.B, 0, none⟩))).put (some 8) (.int .i64 0))) (fun q => q.W) ?_ ?_
  · refine wp_region_held_drew (S := fun w' => w'.cell? ⟨w.heap.size, 0, none⟩ = some (.slice (some ⟨sb, so, none⟩) x.sl x.sc) ∧ w'.cell? ⟨w.heap.size, 1, none⟩ = some (.slice x.ca x.cl x.cc) ∧ w'.cell? ⟨sb, so + k, none⟩ = some (.int .i64 n)) (by kernel_rfl) (SK.out _ t1.out) (fun hHeld => ?_)
    refine held_take 0 (.agg #[.slice (some ⟨sb, so, none⟩) x.sl x.sc, .slice x.ca x.cl x.cc]) rfl (by kernel_rfl) (by kernel_rfl) (by kernel_rfl) (fun _ _ _ h => by obtain ⟨_, _, h, _⟩ := h; cases h) (by rfl) (by intro w' hS; go_simp) (by assumption) ?_
    try simp only [Act.put, List.setIfInBounds_toArray, List.set_cons_zero, List.set_cons_succ]
    refine held_take 1 (.int .i64 k) rfl (by kernel_rfl) (by kernel_rfl) (by kernel_rfl) (fun _ _ _ h => by obtain ⟨_, _, h, _⟩ := h; cases h) (by rfl) (by intro w' hS; go_simp) (by assumption) ?_
    try simp only [Act.put, List.setIfInBounds_toArray, List.set_cons_zero, List.set_cons_succ]
    refine held_take 2 (.pointer (some ⟨w.heap.size, 0, none⟩)) rfl (by kernel_rfl) (by kernel_rfl) (by kernel_rfl) (fun _ _ _ h => by obtain ⟨_, _, h, _⟩ := h; cases h) (by rfl) (by intro w' hS; go_simp) (by assumption) ?_
    try simp only [Act.put, List.setIfInBounds_toArray, List.set_cons_zero, List.set_cons_succ]
    refine held_take 3 (.slice (some ⟨sb, so, none⟩) x.sl x.sc) rfl (by kernel_rfl) (by kernel_rfl) (by kernel_rfl) (fun _ _ _ h => by obtain ⟨_, _, h, _⟩ := h; cases h) (by rfl) (by intro w' hS; go_simp) (by assumption) ?_
    try simp only [Act.put, List.setIfInBounds_toArray, List.set_cons_zero, List.set_cons_succ]
    refine held_take 4 (.int .i64 k) rfl (by kernel_rfl) (by kernel_rfl) (by kernel_rfl) (fun _ _ _ h => by obtain ⟨_, _, h, _⟩ := h; cases h) (by rfl) (by intro w' hS; go_simp) (by assumption) ?_
    try simp only [Act.put, List.setIfInBounds_toArray, List.set_cons_zero, List.set_cons_succ]
    refine held_take 5 (.pointer (some ⟨sb, so + k, none⟩)) rfl (by kernel_rfl) (by kernel_rfl) (by kernel_rfl) (fun _ _ _ h => by obtain ⟨_, _, h, _⟩ := h; cases h) (by rfl) (by intro w' hS; go_simp) (by assumption) ?_
    try simp only [Act.put, List.setIfInBounds_toArray, List.set_cons_zero, List.set_cons_succ]
    refine held_take 6 (.int .i64 n) rfl (by kernel_rfl) (by kernel_rfl) (by kernel_rfl) (fun _ _ _ h => by obtain ⟨_, _, h, _⟩ := h; cases h) (by rfl) (by intro w' hS; go_simp) (by assumption) ?_
    try simp only [Act.put, List.setIfInBounds_toArray, List.set_cons_zero, List.set_cons_succ]
    refine held_two 7 11 (by kernel_rfl) rfl rfl (by rfl) (by rfl) (fun K hK => ?_) (fun K hK => ?_)
    · go_simp
      refine (CC.out w2.drew t1.out).mono ?_
      rintro e y2 h'
      obtain ⟨A8, c8, A9, c9, rfl, o8, o9, l8, l9, hb7⟩ := tres_open2 (n := x.sl) (m := x.cl) h' HSL.out HCL.out
      have b7 := t1.out.trans (hb7.mono t1.out.size)
      obtain ⟨V, hV, JV, zV, nV⟩ := grid_box y2 (.slice none 0 0) (.slice none 0 0)
      have b7h := Lib.hid b7
      have bV := Lib.hid (b7.trans (zV.out.mono b7.size))
      have I8 := Lib.hid (o8.kept zV.out)
      have I9 := Lib.hid (o9.kept zV.out)
      have hK8 : ∀ p, A8 = some p → p.block ≠ y2.heap.size := fun p hp e => by have := (l8 p hp).2; omega
      have hK9 : ∀ p, A9 = some p → p.block ≠ y2.heap.size := fun p hp e => by have := (l9 p hp).2; omega
      have hKb : w2.heap.size ≤ y2.heap.size := b7.size
      clear o8 o9 l8 l9 hb7 b7 h'
      go_wp2_with fail
      refine hK.out _ _ (SK.out _ b7h.out) (fun hHeld => ?_)
      try simp only [Act.put, List.setIfInBounds_toArray, List.set_cons_zero, List.set_cons_succ]
      refine held_take 8 (.tuple #[.agg #[.slice A8 x.sl c8, .slice A9 x.cl c9], .int .i64 0]) rfl (by kernel_rfl) (by kernel_rfl) (by kernel_rfl) (fun _ _ _ h => by obtain ⟨_, _, h, _⟩ := h; cases h) (by rfl) (by intro w' hS; go_simp) (by assumption) ?_
      try simp only [Act.put, List.setIfInBounds_toArray, List.set_cons_zero, List.set_cons_succ]
      refine held_take 9 (.agg #[.slice A8 x.sl c8, .slice A9 x.cl c9]) rfl (by kernel_rfl) (by kernel_rfl) (by kernel_rfl) (fun _ _ _ h => by obtain ⟨_, _, h, _⟩ := h; cases h) (by rfl) (by intro w' hS; go_simp) (by assumption) ?_
      try simp only [Act.put, List.setIfInBounds_toArray, List.set_cons_zero, List.set_cons_succ]
      refine held_take 10 (.int .i64 0) rfl (by kernel_rfl) (by kernel_rfl) (by kernel_rfl) (fun _ _ _ h => by obtain ⟨_, _, h, _⟩ := h; cases h) (by rfl) (by intro w' hS; go_simp) (by assumption) ?_
      try simp only [Act.put, List.setIfInBounds_toArray, List.set_cons_zero, List.set_cons_succ]
      refine held_call 11 (by kernel_rfl) rfl (by rfl) (fun K hK => ?_)
      go_simp
      rw [hV.out]
      refine hK.out _ _ (SK.out _ bV.out) (fun hHeld => ?_)
      try simp only [Act.put, List.setIfInBounds_toArray, List.set_cons_zero, List.set_cons_succ]
      obtain ⟨e0, e1, f0, f1⟩ := JV.out.see
      have F8 := Lib.hid (box_put9 (c8 := c8) (c9 := c9) JV.out hKb bV.out I8.out I9.out hK8 hK9)
      clear hK8 hK9
      refine held_call 12 (by kernel_rfl) rfl (by rfl) (fun K hK => ?_)
      go_simp
      refine hK.out _ _ (SK.out _ F8.out.2.2.2) (fun hHeld => ?_)
      try simp only [Act.put, List.setIfInBounds_toArray, List.set_cons_zero, List.set_cons_succ]
      refine held_take 13 (.int .i64 0) rfl (by kernel_rfl) (by kernel_rfl) (by kernel_rfl) (fun _ _ _ h => by obtain ⟨_, _, h, _⟩ := h; cases h) (by rfl) (by intro w' hS; go_simp) (by assumption) ?_
      try simp only [Act.put, List.setIfInBounds_toArray, List.set_cons_zero, List.set_cons_succ]
      refine wpAnyH_done (by kernel_rfl) ?_ _
      refine ⟨⟨y2.heap.size, A8, c8, A9, c9, _⟩, F8.out, rfl, ?_, rfl⟩
      simp only [Act.put, List.setIfInBounds_toArray, List.set_cons_zero, List.set_cons_succ]
    · go_simp
      rw [HV1.out]
      refine hK.out _ _ (SK.out _ bV1.out) (fun hHeld => ?_)
      try simp only [Act.put, List.setIfInBounds_toArray, List.set_cons_zero, List.set_cons_succ]
      refine held_call 7 (by kernel_rfl) rfl (by rfl) (fun K hK => ?_)
      go_simp
      refine (CC.out V1 bV1.out).mono ?_
      rintro e y2 h'
      obtain ⟨A8, c8, A9, c9, rfl, o8, o9, l8, l9, hb7⟩ := tres_open2 (n := x.sl) (m := x.cl) h' HSL.out HCL.out
      have b7 := bV1.out.trans (hb7.mono bV1.out.size)
      have bV := Lib.hid b7
      have JV := Lib.hid (JV1.out.kept hb7)
      have I8 := Lib.hid o8
      have I9 := Lib.hid o9
      have hK8 : ∀ p, A8 = some p → p.block ≠ w2.heap.size := fun p hp e => by have := (l8 p hp).1; have := sV1.out; omega
      have hK9 : ∀ p, A9 = some p → p.block ≠ w2.heap.size := fun p hp e => by have := (l9 p hp).1; have := sV1.out; omega
      have hKb : w2.heap.size ≤ w2.heap.size := Nat.le_refl _
      clear o8 o9 l8 l9 hb7 b7 h'
      go_wp2_with fail
      refine hK.out _ _ (SK.out _ bV.out) (fun hHeld => ?_)
      try simp only [Act.put, List.setIfInBounds_toArray, List.set_cons_zero, List.set_cons_succ]
      refine held_take 8 (.tuple #[.agg #[.slice A8 x.sl c8, .slice A9 x.cl c9], .int .i64 0]) rfl (by kernel_rfl) (by kernel_rfl) (by kernel_rfl) (fun _ _ _ h => by obtain ⟨_, _, h, _⟩ := h; cases h) (by rfl) (by intro w' hS; go_simp) (by assumption) ?_
      try simp only [Act.put, List.setIfInBounds_toArray, List.set_cons_zero, List.set_cons_succ]
      refine held_take 9 (.agg #[.slice A8 x.sl c8, .slice A9 x.cl c9]) rfl (by kernel_rfl) (by kernel_rfl) (by kernel_rfl) (fun _ _ _ h => by obtain ⟨_, _, h, _⟩ := h; cases h) (by rfl) (by intro w' hS; go_simp) (by assumption) ?_
      try simp only [Act.put, List.setIfInBounds_toArray, List.set_cons_zero, List.set_cons_succ]
      refine held_take 10 (.int .i64 0) rfl (by kernel_rfl) (by kernel_rfl) (by kernel_rfl) (fun _ _ _ h => by obtain ⟨_, _, h, _⟩ := h; cases h) (by rfl) (by intro w' hS; go_simp) (by assumption) ?_
      try simp only [Act.put, List.setIfInBounds_toArray, List.set_cons_zero, List.set_cons_succ]
      obtain ⟨e0, e1, f0, f1⟩ := JV.out.see
      have F8 := Lib.hid (box_put9 (c8 := c8) (c9 := c9) JV.out hKb bV.out I8.out I9.out hK8 hK9)
      clear hK8 hK9
      refine held_call 12 (by kernel_rfl) rfl (by rfl) (fun K hK => ?_)
      go_simp
      refine hK.out _ _ (SK.out _ F8.out.2.2.2) (fun hHeld => ?_)
      try simp only [Act.put, List.setIfInBounds_toArray, List.set_cons_zero, List.set_cons_succ]
      refine held_take 13 (.int .i64 0) rfl (by kernel_rfl) (by kernel_rfl) (by kernel_rfl) (fun _ _ _ h => by obtain ⟨_, _, h, _⟩ := h; cases h) (by rfl) (by intro w' hS; go_simp) (by assumption) ?_
      try simp only [Act.put, List.setIfInBounds_toArray, List.set_cons_zero, List.set_cons_succ]
      refine wpAnyH_done (by kernel_rfl) ?_ _
      refine ⟨⟨w2.heap.size, A8, c8, A9, c9, _⟩, F8.out, rfl, ?_, rfl⟩
      simp only [Act.put, List.setIfInBounds_toArray, List.set_cons_zero, List.set_cons_succ]
  rintro ⟨K7, Z8, z8, Z9, z9, w4⟩ ⟨i8, i9, g7, hb4⟩
  have KC := Lib.hid (And.intro i8 i9)
  have G7 := Lib.hid (show GAt w4 K7 (.slice Z8 x.sl z8) (.slice Z9 x.cl z9) from g7)
  have b4 := Lib.hid (b2.out.trans (hb4.mono b2.out.size))
  have JX4 := Lib.hid (JX2.out.kept hb4)
  have JG4 := Lib.hid (JG2.out.kept hb4)
  clear i8 i9 g7 hb4 SK t1 HV1 JV1 bV1 sV1 CC JX2 JG2
  try simp only [Act.put, List.setIfInBounds_toArray, List.set_cons_zero, List.set_cons_succ]
  obtain ⟨r5, hr5, gs5, zr5⟩ := HM1.out w4 b4.out
  have MJ5 := Lib.hid (MJ.out r5 w4.heap.size gs5.out)
  have hr5' := hr5.out
  obtain ⟨j0, j1, -, -⟩ := JX4.out.see
  go_wp2_with fail
  clear j0 j1 hr5'
  refine MJ5.out.mono ?_
  rintro e y6 h'
  obtain ⟨U1, U2, U3, U4, rfl, GU, hb6⟩ := tres_open (n := x.sl) (m := x.cl) h' HSL.out HCL.out
  obtain ⟨w7, hw7, JU, zx, -⟩ := grid_box y6 (.slice U1 x.sl U2) (.slice U3 x.cl U4)
  have q := zr5.out.trans ((hb6.trans (zx.out.mono hb6.size)).mono zr5.out.size)
  have b7 := Lib.hid (b4.out.trans (q.mono b4.out.size))
  have JX7 := Lib.hid (JX4.out.kept q)
  have JG7 := Lib.hid (JG4.out.kept q)
  have G77 := Lib.hid (G7.out.kept q)
  have KC7 := Lib.hid (And.intro (KC.out.1.kept q) (KC.out.2.kept q))
  have KU := Lib.hid (GU.kept zx.out)
  clear h' GU hb6 q zx MJ5 JX4 JG4 G7 KC gs5 zr5 hr5 MJ
  go_upto_region 5 with (fail)
  rw [hw7.out]
  have EQ1 := tequal_any Z8 x.sl z8 x.ss Z9 x.cl z9 x.cs (some ⟨sb, so, none⟩) x.sl x.sc x.ss x.ca x.cl x.cc x.cs w7 KC7.out.1 KC7.out.2 (hsa ▸ (HX.out w7 b7.out).1.1) (HX.out w7 b7.out).1.2.1
  rw [show sameT x.ss x.cs x.ss x.cs = true by unfold sameT; rw [sameL_self, sameL_self]; rfl] at EQ1
  replace EQ1 := Lib.hid EQ1
  obtain ⟨j0, j1, -, -⟩ := JX7.out.see
  obtain ⟨c0, c1, -, -⟩ := G77.out.see
  go_wp2_with fail
  clear j0 j1 c0 c1
  refine EQ1.out.mono ?_
  rintro e w8 ⟨rfl, hb8⟩
  have b8 := Lib.hid (b7.out.trans (hb8.mono b7.out.size))
  have JX8 := Lib.hid (JX7.out.kept hb8)
  have JG8 := Lib.hid (JG7.out.kept hb8)
  have JU8 := Lib.hid (JU.out.kept hb8)
  have KU8 := Lib.hid (KU.out.kept hb8)
  clear hb8 EQ1 JX7 JG7 JU KU G77 KC7
  have EQ2 := tequal_any U1 x.sl U2 x.ss U3 x.cl U4 x.cs (some ⟨sb, so, none⟩) x.sl x.sc x.ss x.ca x.cl x.cc x.cs w8 KU8.out.1.1 KU8.out.1.2.1 (hsa ▸ (HX.out w8 b8.out).1.1) (HX.out w8 b8.out).1.2.1
  rw [show sameT x.ss x.cs x.ss x.cs = true by unfold sameT; rw [sameL_self, sameL_self]; rfl] at EQ2
  replace EQ2 := Lib.hid EQ2
  obtain ⟨j0, j1, -, -⟩ := JX8.out.see
  obtain ⟨u0, u1, -, -⟩ := JU8.out.see
  go_wp2_with fail
  clear j0 j1 u0 u1
  refine EQ2.out.mono ?_
  rintro e w9 ⟨rfl, hb9⟩
  have b9 := Lib.hid (b8.out.trans (hb9.mono b8.out.size))
  have JX9 := Lib.hid (JX8.out.kept hb9)
  have JG9 := Lib.hid (JG8.out.kept hb9)
  clear hb9 EQ2 JX8 JG8 JU8 KU8
  obtain ⟨k0, k1, -, -⟩ := JG9.out.see
  go_wp2_with fail
  clear k0 k1
  refine (RG.out w9 b9.out).mono ?_
  rintro e w10 ⟨rfl, hb10⟩
  have b10 := Lib.hid (b9.out.trans (hb10.mono b9.out.size))
  have JX10 := Lib.hid (JX9.out.kept hb10)
  have JG10 := Lib.hid (JG9.out.kept hb10)
  clear hb10 JX9 JG9
  have SE := same_any g.sa g.sl g.sc g.ss (some ⟨sb, so, none⟩) x.sl x.sc x.ss w10 (HG.out w10 b10.out).1.1 (hsa ▸ (HX.out w10 b10.out).1.1)
  rw [HQ3.out] at SE
  replace SE := Lib.hid SE
  obtain ⟨j0, j1, -, -⟩ := JX10.out.see
  obtain ⟨k0, k1, -, -⟩ := JG10.out.see
  go_wp2_with fail
  clear j0 j1 k0 k1
  refine SE.out.mono ?_
  rintro e w11 ⟨rfl, nq, hw11⟩
  have q := (show Below w10.heap.size w10 w11 by rw [hw11]; exact below_drewN' (Below.refl _ _) nq)
  have b11 := Lib.hid (b10.out.trans (q.mono b10.out.size))
  have JX11 := Lib.hid (JX10.out.kept q)
  have JG11 := Lib.hid (JG10.out.kept q)
  clear q hw11 SE JX10 JG10
  go_wp2_with fail
  have SK := Lib.hid (fun w' (hb : Below w11.heap.size w11 w') => (show w'.cell? ⟨w.heap.size, 0, none⟩ = some (.slice (some ⟨sb, so, none⟩) x.sl x.sc) ∧ w'.cell? ⟨w.heap.size, 1, none⟩ = some (.slice x.ca x.cl x.cc) ∧ w'.cell? ⟨sb, so + k, none⟩ = some (.int .i64 n) ∧ w'.cell? ⟨w.heap.size + 1, 0, none⟩ = some (.slice g.sa g.sl g.sc) ∧ w'.cell? ⟨w.heap.size + 1, 1, none⟩ = some (.slice g.ca g.cl g.cc) from ⟨(JX11.out.kept hb).see.1, (JX11.out.kept hb).see.2.1, HSC.out w' (b11.out.trans (hb.mono b11.out.size)), (JG11.out.kept hb).see.1, (JG11.out.kept hb).see.2.1⟩))
  have t1 := Lib.hid (show Below w11.heap.size w11 w11.drew from (Below.refl _ _).drew)
  obtain ⟨V1, hV1⟩ : ∃ V1, (w11.alloc (.cells #[.slice none 0 0, .slice none 0 0] 29)).drew = V1 := ⟨_, rfl⟩
  have HV1 := Lib.hid hV1
  have JV1 := Lib.hid (show GAt V1 w11.heap.size (.slice none 0 0) (.slice none 0 0) by rw [← hV1]; exact World.alloc_heap_new w11 _)
  have bV1 := Lib.hid (show Below w11.heap.size w11 V1 by rw [← hV1]; exact ((Below.refl _ _).alloc (Nat.le_refl _) _).drew)
  have sV1 := Lib.hid (show w11.heap.size < V1.heap.size by rw [← hV1]; show w11.heap.size < (w11.alloc _).heap.size; simp)
  have CC := Lib.hid (fun wv (hb : Below w11.heap.size w11 wv) => CBk.out wv (b11.out.trans (hb.mono b11.out.size)))
  clear hV1 CBk
  go_upto_region 9 with (fail)
  refine wp_cutP (ι := BoxQ) (BoxP w11 g.sl g.ss g.cl g.cs) (fun q a => ((((((((((((((a.put (some 86) (.agg #[.slice (some ⟨sb, so, none⟩) x.sl x.sc, .slice x.ca x.cl x.cc])).put (some 87) (.agg #[.slice g.sa g.sl g.sc, .slice g.ca g.cl g.cc])).put (some 88) (.int .i64 k)).put (some 89) (.pointer (some ⟨w.heap.size, 0, none⟩))).put (some 90) (.slice (some ⟨sb, so, none⟩) x.sl x.sc)).put (some 91) (.int .i64 k)).put (some 92) (.pointer (some ⟨sb, so + k, none⟩))).put (some 93) (.int .i64 n)).put (some 94) (.tuple #[.agg #[.slice q.A8 g.sl q.c8, .slice q.A9 g.cl q.c9], .int .i64 0])).put (some 85) (.tuple #[.agg #[.slice q.A8 g.sl q.c8, .slice q.A9 g.cl q.c9], .int .i64 0])).put (some 95) (.agg #[.slice q.A8 g.sl q.c8, .slice q.A9 g.cl q.c9])).put (some 96) (.int .i64 0)).put (some 11) (.pointer (some ⟨q.B, 0, none⟩))).put (some 12) (.int .i64 0))) (fun q => q.W) ?_ ?_
  · refine wp_region_held_drew (S := fun w' => w'.cell? ⟨w.heap.size, 0, none⟩ = some (.slice (some ⟨sb, so, none⟩) x.sl x.sc) ∧ w'.cell? ⟨w.heap.size, 1, none⟩ = some (.slice x.ca x.cl x.cc) ∧ w'.cell? ⟨sb, so + k, none⟩ = some (.int .i64 n) ∧ w'.cell? ⟨w.heap.size + 1, 0, none⟩ = some (.slice g.sa g.sl g.sc) ∧ w'.cell? ⟨w.heap.size + 1, 1, none⟩ = some (.slice g.ca g.cl g.cc)) (by kernel_rfl) (SK.out _ t1.out) (fun hHeld => ?_)
    refine held_take 0 (.agg #[.slice (some ⟨sb, so, none⟩) x.sl x.sc, .slice x.ca x.cl x.cc]) rfl (by kernel_rfl) (by kernel_rfl) (by kernel_rfl) (fun _ _ _ h => by obtain ⟨_, _, h, _⟩ := h; cases h) (by rfl) (by intro w' hS; go_simp) (by assumption) ?_
    try simp only [Act.put, List.setIfInBounds_toArray, List.set_cons_zero, List.set_cons_succ]
    refine held_take 1 (.agg #[.slice g.sa g.sl g.sc, .slice g.ca g.cl g.cc]) rfl (by kernel_rfl) (by kernel_rfl) (by kernel_rfl) (fun _ _ _ h => by obtain ⟨_, _, h, _⟩ := h; cases h) (by rfl) (by intro w' hS; go_simp) (by assumption) ?_
    try simp only [Act.put, List.setIfInBounds_toArray, List.set_cons_zero, List.set_cons_succ]
    refine held_take 2 (.int .i64 k) rfl (by kernel_rfl) (by kernel_rfl) (by kernel_rfl) (fun _ _ _ h => by obtain ⟨_, _, h, _⟩ := h; cases h) (by rfl) (by intro w' hS; go_simp) (by assumption) ?_
    try simp only [Act.put, List.setIfInBounds_toArray, List.set_cons_zero, List.set_cons_succ]
    refine held_take 3 (.pointer (some ⟨w.heap.size, 0, none⟩)) rfl (by kernel_rfl) (by kernel_rfl) (by kernel_rfl) (fun _ _ _ h => by obtain ⟨_, _, h, _⟩ := h; cases h) (by rfl) (by intro w' hS; go_simp) (by assumption) ?_
    try simp only [Act.put, List.setIfInBounds_toArray, List.set_cons_zero, List.set_cons_succ]
    refine held_take 4 (.slice (some ⟨sb, so, none⟩) x.sl x.sc) rfl (by kernel_rfl) (by kernel_rfl) (by kernel_rfl) (fun _ _ _ h => by obtain ⟨_, _, h, _⟩ := h; cases h) (by rfl) (by intro w' hS; go_simp) (by assumption) ?_
    try simp only [Act.put, List.setIfInBounds_toArray, List.set_cons_zero, List.set_cons_succ]
    refine held_take 5 (.int .i64 k) rfl (by kernel_rfl) (by kernel_rfl) (by kernel_rfl) (fun _ _ _ h => by obtain ⟨_, _, h, _⟩ := h; cases h) (by rfl) (by intro w' hS; go_simp) (by assumption) ?_
    try simp only [Act.put, List.setIfInBounds_toArray, List.set_cons_zero, List.set_cons_succ]
    refine held_take 6 (.pointer (some ⟨sb, so + k, none⟩)) rfl (by kernel_rfl) (by kernel_rfl) (by kernel_rfl) (fun _ _ _ h => by obtain ⟨_, _, h, _⟩ := h; cases h) (by rfl) (by intro w' hS; go_simp) (by assumption) ?_
    try simp only [Act.put, List.setIfInBounds_toArray, List.set_cons_zero, List.set_cons_succ]
    refine held_take 7 (.int .i64 n) rfl (by kernel_rfl) (by kernel_rfl) (by kernel_rfl) (fun _ _ _ h => by obtain ⟨_, _, h, _⟩ := h; cases h) (by rfl) (by intro w' hS; go_simp) (by assumption) ?_
    try simp only [Act.put, List.setIfInBounds_toArray, List.set_cons_zero, List.set_cons_succ]
    refine held_two 8 12 (by kernel_rfl) rfl rfl (by rfl) (by rfl) (fun K hK => ?_) (fun K hK => ?_)
    · go_simp
      refine (CC.out w11.drew t1.out).mono ?_
      rintro e y2 h'
      obtain ⟨A8, c8, A9, c9, rfl, o8, o9, l8, l9, hb7⟩ := tres_open2 (n := g.sl) (m := g.cl) h' HGSL.out HGCL.out
      have b7 := t1.out.trans (hb7.mono t1.out.size)
      obtain ⟨V, hV, JV, zV, nV⟩ := grid_box y2 (.slice none 0 0) (.slice none 0 0)
      have b7h := Lib.hid b7
      have bV := Lib.hid (b7.trans (zV.out.mono b7.size))
      have I8 := Lib.hid (o8.kept zV.out)
      have I9 := Lib.hid (o9.kept zV.out)
      have hK8 : ∀ p, A8 = some p → p.block ≠ y2.heap.size := fun p hp e => by have := (l8 p hp).2; omega
      have hK9 : ∀ p, A9 = some p → p.block ≠ y2.heap.size := fun p hp e => by have := (l9 p hp).2; omega
      have hKb : w11.heap.size ≤ y2.heap.size := b7.size
      clear o8 o9 l8 l9 hb7 b7 h'
      go_wp2_with fail
      refine hK.out _ _ (SK.out _ b7h.out) (fun hHeld => ?_)
      try simp only [Act.put, List.setIfInBounds_toArray, List.set_cons_zero, List.set_cons_succ]
      refine held_take 9 (.tuple #[.agg #[.slice A8 g.sl c8, .slice A9 g.cl c9], .int .i64 0]) rfl (by kernel_rfl) (by kernel_rfl) (by kernel_rfl) (fun _ _ _ h => by obtain ⟨_, _, h, _⟩ := h; cases h) (by rfl) (by intro w' hS; go_simp) (by assumption) ?_
      try simp only [Act.put, List.setIfInBounds_toArray, List.set_cons_zero, List.set_cons_succ]
      refine held_take 10 (.agg #[.slice A8 g.sl c8, .slice A9 g.cl c9]) rfl (by kernel_rfl) (by kernel_rfl) (by kernel_rfl) (fun _ _ _ h => by obtain ⟨_, _, h, _⟩ := h; cases h) (by rfl) (by intro w' hS; go_simp) (by assumption) ?_
      try simp only [Act.put, List.setIfInBounds_toArray, List.set_cons_zero, List.set_cons_succ]
      refine held_take 11 (.int .i64 0) rfl (by kernel_rfl) (by kernel_rfl) (by kernel_rfl) (fun _ _ _ h => by obtain ⟨_, _, h, _⟩ := h; cases h) (by rfl) (by intro w' hS; go_simp) (by assumption) ?_
      try simp only [Act.put, List.setIfInBounds_toArray, List.set_cons_zero, List.set_cons_succ]
      refine held_call 12 (by kernel_rfl) rfl (by rfl) (fun K hK => ?_)
      go_simp
      rw [hV.out]
      refine hK.out _ _ (SK.out _ bV.out) (fun hHeld => ?_)
      try simp only [Act.put, List.setIfInBounds_toArray, List.set_cons_zero, List.set_cons_succ]
      obtain ⟨e0, e1, f0, f1⟩ := JV.out.see
      have F8 := Lib.hid (box_put9 (c8 := c8) (c9 := c9) JV.out hKb bV.out I8.out I9.out hK8 hK9)
      clear hK8 hK9
      refine held_call 13 (by kernel_rfl) rfl (by rfl) (fun K hK => ?_)
      go_simp
      refine hK.out _ _ (SK.out _ F8.out.2.2.2) (fun hHeld => ?_)
      try simp only [Act.put, List.setIfInBounds_toArray, List.set_cons_zero, List.set_cons_succ]
      refine held_take 14 (.int .i64 0) rfl (by kernel_rfl) (by kernel_rfl) (by kernel_rfl) (fun _ _ _ h => by obtain ⟨_, _, h, _⟩ := h; cases h) (by rfl) (by intro w' hS; go_simp) (by assumption) ?_
      try simp only [Act.put, List.setIfInBounds_toArray, List.set_cons_zero, List.set_cons_succ]
      refine wpAnyH_done (by kernel_rfl) ?_ _
      refine ⟨⟨y2.heap.size, A8, c8, A9, c9, _⟩, F8.out, rfl, ?_, rfl⟩
      simp only [Act.put, List.setIfInBounds_toArray, List.set_cons_zero, List.set_cons_succ]
    · go_simp
      rw [HV1.out]
      refine hK.out _ _ (SK.out _ bV1.out) (fun hHeld => ?_)
      try simp only [Act.put, List.setIfInBounds_toArray, List.set_cons_zero, List.set_cons_succ]
      refine held_call 8 (by kernel_rfl) rfl (by rfl) (fun K hK => ?_)
      go_simp
      refine (CC.out V1 bV1.out).mono ?_
      rintro e y2 h'
      obtain ⟨A8, c8, A9, c9, rfl, o8, o9, l8, l9, hb7⟩ := tres_open2 (n := g.sl) (m := g.cl) h' HGSL.out HGCL.out
      have b7 := bV1.out.trans (hb7.mono bV1.out.size)
      have bV := Lib.hid b7
      have JV := Lib.hid (JV1.out.kept hb7)
      have I8 := Lib.hid o8
      have I9 := Lib.hid o9
      have hK8 : ∀ p, A8 = some p → p.block ≠ w11.heap.size := fun p hp e => by have := (l8 p hp).1; have := sV1.out; omega
      have hK9 : ∀ p, A9 = some p → p.block ≠ w11.heap.size := fun p hp e => by have := (l9 p hp).1; have := sV1.out; omega
      have hKb : w11.heap.size ≤ w11.heap.size := Nat.le_refl _
      clear o8 o9 l8 l9 hb7 b7 h'
      go_wp2_with fail
      refine hK.out _ _ (SK.out _ bV.out) (fun hHeld => ?_)
      try simp only [Act.put, List.setIfInBounds_toArray, List.set_cons_zero, List.set_cons_succ]
      refine held_take 9 (.tuple #[.agg #[.slice A8 g.sl c8, .slice A9 g.cl c9], .int .i64 0]) rfl (by kernel_rfl) (by kernel_rfl) (by kernel_rfl) (fun _ _ _ h => by obtain ⟨_, _, h, _⟩ := h; cases h) (by rfl) (by intro w' hS; go_simp) (by assumption) ?_
      try simp only [Act.put, List.setIfInBounds_toArray, List.set_cons_zero, List.set_cons_succ]
      refine held_take 10 (.agg #[.slice A8 g.sl c8, .slice A9 g.cl c9]) rfl (by kernel_rfl) (by kernel_rfl) (by kernel_rfl) (fun _ _ _ h => by obtain ⟨_, _, h, _⟩ := h; cases h) (by rfl) (by intro w' hS; go_simp) (by assumption) ?_
      try simp only [Act.put, List.setIfInBounds_toArray, List.set_cons_zero, List.set_cons_succ]
      refine held_take 11 (.int .i64 0) rfl (by kernel_rfl) (by kernel_rfl) (by kernel_rfl) (fun _ _ _ h => by obtain ⟨_, _, h, _⟩ := h; cases h) (by rfl) (by intro w' hS; go_simp) (by assumption) ?_
      try simp only [Act.put, List.setIfInBounds_toArray, List.set_cons_zero, List.set_cons_succ]
      obtain ⟨e0, e1, f0, f1⟩ := JV.out.see
      have F8 := Lib.hid (box_put9 (c8 := c8) (c9 := c9) JV.out hKb bV.out I8.out I9.out hK8 hK9)
      clear hK8 hK9
      refine held_call 13 (by kernel_rfl) rfl (by rfl) (fun K hK => ?_)
      go_simp
      refine hK.out _ _ (SK.out _ F8.out.2.2.2) (fun hHeld => ?_)
      try simp only [Act.put, List.setIfInBounds_toArray, List.set_cons_zero, List.set_cons_succ]
      refine held_take 14 (.int .i64 0) rfl (by kernel_rfl) (by kernel_rfl) (by kernel_rfl) (fun _ _ _ h => by obtain ⟨_, _, h, _⟩ := h; cases h) (by rfl) (by intro w' hS; go_simp) (by assumption) ?_
      try simp only [Act.put, List.setIfInBounds_toArray, List.set_cons_zero, List.set_cons_succ]
      refine wpAnyH_done (by kernel_rfl) ?_ _
      refine ⟨⟨w11.heap.size, A8, c8, A9, c9, _⟩, F8.out, rfl, ?_, rfl⟩
      simp only [Act.put, List.setIfInBounds_toArray, List.set_cons_zero, List.set_cons_succ]
  rintro ⟨K11, Y8, yc8, Y9, yc9, w13⟩ ⟨i8, i9, g11, hb13⟩
  have KB := Lib.hid (And.intro i8 i9)
  have G11 := Lib.hid (show GAt w13 K11 (.slice Y8 g.sl yc8) (.slice Y9 g.cl yc9) from g11)
  have b13 := Lib.hid (b11.out.trans (hb13.mono b11.out.size))
  have JX13 := Lib.hid (JX11.out.kept hb13)
  have JG13 := Lib.hid (JG11.out.kept hb13)
  clear i8 i9 g11 hb13 SK t1 HV1 JV1 bV1 sV1 CC JX11 JG11
  try simp only [Act.put, List.setIfInBounds_toArray, List.set_cons_zero, List.set_cons_succ]
  obtain ⟨r14, hr14, gs14, zr14⟩ := HM1.out w13 b13.out
  have b14r := b13.out.trans (zr14.out.mono b13.out.size)
  have JB14 := Lib.hid (JBk.out r14 w13.heap.size gs14.out b14r)
  have hr14' := hr14.out
  obtain ⟨j0, j1, -, -⟩ := JX13.out.see
  obtain ⟨k0, k1, -, -⟩ := JG13.out.see
  go_wp2_with fail
  clear j0 j1 k0 k1 hr14'
  refine JB14.out.mono ?_
  rintro e w15 ⟨la, ln, lc, us, rfl, hus, hgs, hb15⟩
  have q := zr14.out.trans (hb15.mono zr14.out.size)
  have b15 := Lib.hid (b13.out.trans (q.mono b13.out.size))
  have JG15 := Lib.hid (JG13.out.kept q)
  have G15 := Lib.hid (G11.out.kept q)
  have KB15 := Lib.hid (And.intro (KB.out.1.kept q) (KB.out.2.kept q))
  obtain ⟨u, rfl⟩ : ∃ u, us = [u] := by
    have h1 := congrArg List.length hus
    rw [List.length_map] at h1
    exact List.length_eq_one_iff.1 h1
  obtain rfl : 1 = ln := hgs.len
  obtain ⟨lb, lo, rfl⟩ := hgs.addr (by omega)
  obtain ⟨d0, d1, hu⟩ := hgs.cell (j := 0) rfl
  simp only [Nat.zero_mul, Nat.add_zero] at d0 d1
  have hup : pr u = pr g := by simpa using hus
  have HUP := Lib.hid hup
  have HD0 := Lib.hid d0
  have HD1 := Lib.hid d1
  have HU := Lib.hid hu
  clear hus hgs hb15 q JB14 gs14 zr14 hr14 b14r d0 d1 hu hup JX13 JG13 G11 KB
  have EQ3 := Lib.hid (fun w2 (hb : Below w15.heap.size w15 w2) => tequal_any Y8 g.sl yc8 g.ss Y9 g.cl yc9 g.cs g.sa g.sl g.sc g.ss g.ca g.cl g.cc g.cs w2 (KB15.out.1.kept hb) (KB15.out.2.kept hb) ((HG.out w15 b15.out).kept hb).1.1 ((HG.out w15 b15.out).kept hb).1.2.1)
  rw [show sameT g.ss g.cs g.ss g.cs = true by unfold sameT; rw [sameL_self, sameL_self]; rfl] at EQ3
  have EQ4 := Lib.hid (fun w2 (hb : Below w15.heap.size w15 w2) => tequal_any u.sa u.sl u.sc u.ss u.ca u.cl u.cc u.cs g.sa g.sl g.sc g.ss g.ca g.cl g.cc g.cs w2 (HU.out.kept hb).1.1 (HU.out.kept hb).1.2.1 ((HG.out w15 b15.out).kept hb).1.1 ((HG.out w15 b15.out).kept hb).1.2.1)
  rw [show sameT u.ss u.cs g.ss g.cs = true by rw [show u.ss = g.ss from congrArg Prod.fst HUP.out, show u.cs = g.cs from congrArg Prod.snd HUP.out]; unfold sameT; rw [sameL_self, sameL_self]; rfl] at EQ4
  go_upto_region 11 with (fail)
  have SK := Lib.hid (fun w' (hb : Below w15.heap.size w15 w') => (show w'.cell? ⟨K11, 0, none⟩ = some (.slice Y8 g.sl yc8) ∧ w'.cell? ⟨K11, 1, none⟩ = some (.slice Y9 g.cl yc9) ∧ w'.cell? ⟨w.heap.size + 1, 0, none⟩ = some (.slice g.sa g.sl g.sc) ∧ w'.cell? ⟨w.heap.size + 1, 1, none⟩ = some (.slice g.ca g.cl g.cc) ∧ w'.cell? ⟨lb, lo, none⟩ = some (.slice u.sa u.sl u.sc) ∧ w'.cell? ⟨lb, lo + 1, none⟩ = some (.slice u.ca u.cl u.cc) from ⟨(G15.out.kept hb).see.1, (G15.out.kept hb).see.2.1, (JG15.out.kept hb).see.1, (JG15.out.kept hb).see.2.1, cell_later hb HD0.out, cell_later hb HD1.out⟩))
  have t1 := Lib.hid (show Below w15.heap.size w15 w15.drew from (Below.refl _ _).drew)
  refine wp_region_held_drew (S := fun w' => w'.cell? ⟨K11, 0, none⟩ = some (.slice Y8 g.sl yc8) ∧ w'.cell? ⟨K11, 1, none⟩ = some (.slice Y9 g.cl yc9) ∧ w'.cell? ⟨w.heap.size + 1, 0, none⟩ = some (.slice g.sa g.sl g.sc) ∧ w'.cell? ⟨w.heap.size + 1, 1, none⟩ = some (.slice g.ca g.cl g.cc) ∧ w'.cell? ⟨lb, lo, none⟩ = some (.slice u.sa u.sl u.sc) ∧ w'.cell? ⟨lb, lo + 1, none⟩ = some (.slice u.ca u.cl u.cc)) (by kernel_rfl) (SK.out _ t1.out) (fun hHeld => ?_)
  refine held_take 0 (.int .i64 0) rfl (by kernel_rfl) (by kernel_rfl) (by kernel_rfl) (fun _ _ _ h => h) (by rfl) (by intro w' hS; go_simp) (by assumption) ?_
  try simp only [Act.put, List.setIfInBounds_toArray, List.set_cons_zero, List.set_cons_succ]
  refine held_take 1 (.bool true) rfl (by kernel_rfl) (by kernel_rfl) (by kernel_rfl) (fun _ _ _ h => h) (by rfl) (by intro w' hS; go_simp) (by assumption) ?_
  try simp only [Act.put, List.setIfInBounds_toArray, List.set_cons_zero, List.set_cons_succ]
  refine held_take 2 (.bool true) rfl (by kernel_rfl) (by kernel_rfl) (by kernel_rfl) (fun _ _ _ h => h) (by rfl) (by intro w' hS; go_simp) (by assumption) ?_
  try simp only [Act.put, List.setIfInBounds_toArray, List.set_cons_zero, List.set_cons_succ]
  refine held_take 3 (.int .i64 0) rfl (by kernel_rfl) (by kernel_rfl) (by kernel_rfl) (fun _ _ _ h => h) (by rfl) (by intro w' hS; go_simp) (by assumption) ?_
  try simp only [Act.put, List.setIfInBounds_toArray, List.set_cons_zero, List.set_cons_succ]
  refine held_take 4 (.bool true) rfl (by kernel_rfl) (by kernel_rfl) (by kernel_rfl) (fun _ _ _ h => h) (by rfl) (by intro w' hS; go_simp) (by assumption) ?_
  try simp only [Act.put, List.setIfInBounds_toArray, List.set_cons_zero, List.set_cons_succ]
  refine held_take 5 (.bool true) rfl (by kernel_rfl) (by kernel_rfl) (by kernel_rfl) (fun _ _ _ h => h) (by rfl) (by intro w' hS; go_simp) (by assumption) ?_
  try simp only [Act.put, List.setIfInBounds_toArray, List.set_cons_zero, List.set_cons_succ]
  refine held_take 6 (.bool true) rfl (by kernel_rfl) (by kernel_rfl) (by kernel_rfl) (fun _ _ _ h => h) (by rfl) (by intro w' hS; go_simp) (by assumption) ?_
  try simp only [Act.put, List.setIfInBounds_toArray, List.set_cons_zero, List.set_cons_succ]
  refine held_take 7 (.agg #[.slice Y8 g.sl yc8, .slice Y9 g.cl yc9]) rfl (by kernel_rfl) (by kernel_rfl) (by kernel_rfl) (fun _ _ _ h => h) (by rfl) (by intro w' hS; go_simp) (by assumption) ?_
  try simp only [Act.put, List.setIfInBounds_toArray, List.set_cons_zero, List.set_cons_succ]
  refine held_take 8 (.agg #[.slice g.sa g.sl g.sc, .slice g.ca g.cl g.cc]) rfl (by kernel_rfl) (by kernel_rfl) (by kernel_rfl) (fun _ _ _ h => h) (by rfl) (by intro w' hS; go_simp) (by assumption) ?_
  try simp only [Act.put, List.setIfInBounds_toArray, List.set_cons_zero, List.set_cons_succ]
  refine held_call 9 (by kernel_rfl) rfl (by rfl) (fun K hK => ?_)
  go_simp
  refine (EQ3.out w15.drew t1.out).mono ?_
  rintro e wq1 ⟨rfl, hb⟩
  have bq1 := Lib.hid (t1.out.trans ((hb).mono t1.out.size))
  go_wp2_with fail
  refine hK.out _ _ (SK.out _ bq1.out) (fun hHeld => ?_)
  try simp only [Act.put, List.setIfInBounds_toArray, List.set_cons_zero, List.set_cons_succ]
  refine held_take 10 (.bool true) rfl (by kernel_rfl) (by kernel_rfl) (by kernel_rfl) (fun _ _ _ h => h) (by rfl) (by intro w' hS; go_simp) (by assumption) ?_
  try simp only [Act.put, List.setIfInBounds_toArray, List.set_cons_zero, List.set_cons_succ]
  refine held_take 11 (.bool true) rfl (by kernel_rfl) (by kernel_rfl) (by kernel_rfl) (fun _ _ _ h => h) (by rfl) (by intro w' hS; go_simp) (by assumption) ?_
  try simp only [Act.put, List.setIfInBounds_toArray, List.set_cons_zero, List.set_cons_succ]
  refine held_take 12 (.slice (some ⟨lb, lo, none⟩) 1 lc) rfl (by kernel_rfl) (by kernel_rfl) (by kernel_rfl) (fun _ _ _ h => h) (by rfl) (by intro w' hS; go_simp) (by assumption) ?_
  try simp only [Act.put, List.setIfInBounds_toArray, List.set_cons_zero, List.set_cons_succ]
  refine held_take 13 (.int .i64 1) rfl (by kernel_rfl) (by kernel_rfl) (by kernel_rfl) (fun _ _ _ h => h) (by rfl) (by intro w' hS; go_simp) (by assumption) ?_
  try simp only [Act.put, List.setIfInBounds_toArray, List.set_cons_zero, List.set_cons_succ]
  refine held_take 14 (.bool true) rfl (by kernel_rfl) (by kernel_rfl) (by kernel_rfl) (fun _ _ _ h => h) (by rfl) (by intro w' hS; go_simp) (by assumption) ?_
  try simp only [Act.put, List.setIfInBounds_toArray, List.set_cons_zero, List.set_cons_succ]
  refine held_take 15 (.bool true) rfl (by kernel_rfl) (by kernel_rfl) (by kernel_rfl) (fun _ _ _ h => h) (by rfl) (by intro w' hS; go_simp) (by assumption) ?_
  try simp only [Act.put, List.setIfInBounds_toArray, List.set_cons_zero, List.set_cons_succ]
  refine held_take 16 (.bool true) rfl (by kernel_rfl) (by kernel_rfl) (by kernel_rfl) (fun _ _ _ h => h) (by rfl) (by intro w' hS; go_simp) (by assumption) ?_
  try simp only [Act.put, List.setIfInBounds_toArray, List.set_cons_zero, List.set_cons_succ]
  refine held_take 17 (.slice (some ⟨lb, lo, none⟩) 1 lc) rfl (by kernel_rfl) (by kernel_rfl) (by kernel_rfl) (fun _ _ _ h => h) (by rfl) (by intro w' hS; go_simp) (by assumption) ?_
  try simp only [Act.put, List.setIfInBounds_toArray, List.set_cons_zero, List.set_cons_succ]
  refine held_take 18 (.pointer (some ⟨lb, lo, none⟩)) rfl (by kernel_rfl) (by kernel_rfl) (by kernel_rfl) (fun _ _ _ h => h) (by rfl) (by intro w' hS; go_simp) (by assumption) ?_
  try simp only [Act.put, List.setIfInBounds_toArray, List.set_cons_zero, List.set_cons_succ]
  refine held_take 19 (.agg #[.slice u.sa u.sl u.sc, .slice u.ca u.cl u.cc]) rfl (by kernel_rfl) (by kernel_rfl) (by kernel_rfl) (fun _ _ _ h => h) (by rfl) (by intro w' hS; go_simp) (by assumption) ?_
  try simp only [Act.put, List.setIfInBounds_toArray, List.set_cons_zero, List.set_cons_succ]
  refine held_take 20 (.agg #[.slice g.sa g.sl g.sc, .slice g.ca g.cl g.cc]) rfl (by kernel_rfl) (by kernel_rfl) (by kernel_rfl) (fun _ _ _ h => h) (by rfl) (by intro w' hS; go_simp) (by assumption) ?_
  try simp only [Act.put, List.setIfInBounds_toArray, List.set_cons_zero, List.set_cons_succ]
  refine held_call 21 (by kernel_rfl) rfl (by rfl) (fun K hK => ?_)
  go_simp
  refine (EQ4.out wq1 bq1.out).mono ?_
  rintro e wq2 ⟨rfl, hb⟩
  have bq2 := Lib.hid (bq1.out.trans ((hb).mono bq1.out.size))
  go_wp2_with fail
  refine hK.out _ _ (SK.out _ bq2.out) (fun hHeld => ?_)
  try simp only [Act.put, List.setIfInBounds_toArray, List.set_cons_zero, List.set_cons_succ]
  refine held_take 22 (.bool true) rfl (by kernel_rfl) (by kernel_rfl) (by kernel_rfl) (fun _ _ _ h => h) (by rfl) (by intro w' hS; go_simp) (by assumption) ?_
  try simp only [Act.put, List.setIfInBounds_toArray, List.set_cons_zero, List.set_cons_succ]
  refine held_take 23 (.bool true) rfl (by kernel_rfl) (by kernel_rfl) (by kernel_rfl) (fun _ _ _ h => h) (by rfl) (by intro w' hS; go_simp) (by assumption) ?_
  try simp only [Act.put, List.setIfInBounds_toArray, List.set_cons_zero, List.set_cons_succ]
  refine held_call 24 (by kernel_rfl) rfl (by rfl) (fun K hK => ?_)
  go_simp
  refine (awake09_any wq2).mono ?_
  rintro e wq3 ⟨rfl, hb⟩
  have bq3 := Lib.hid (bq2.out.trans ((hb).mono bq2.out.size))
  go_wp2_with fail
  refine hK.out _ _ (SK.out _ bq3.out) (fun hHeld => ?_)
  try simp only [Act.put, List.setIfInBounds_toArray, List.set_cons_zero, List.set_cons_succ]
  refine held_take 25 (.bool true) rfl (by kernel_rfl) (by kernel_rfl) (by kernel_rfl) (fun _ _ _ h => h) (by rfl) (by intro w' hS; go_simp) (by assumption) ?_
  try simp only [Act.put, List.setIfInBounds_toArray, List.set_cons_zero, List.set_cons_succ]
  refine held_take 26 (.bool true) rfl (by kernel_rfl) (by kernel_rfl) (by kernel_rfl) (fun _ _ _ h => h) (by rfl) (by intro w' hS; go_simp) (by assumption) ?_
  try simp only [Act.put, List.setIfInBounds_toArray, List.set_cons_zero, List.set_cons_succ]
  refine wpAnyH_done (by kernel_rfl) ?_ _
  have b16 := Lib.hid (b15.out.trans (bq3.out.mono b15.out.size))
  go_wp2_with fail
  go_ret
  exact ⟨rfl, b16.out⟩

theorem moveWhole_walk (x g : TV) (side : Int) (w : World) (hx : Good x w) (hg : Good g w) (h1 : -9223372036854775808 ≤ side) (h2 : side ≤ 9223372036854775807) :
    Calls Try.prog 7 #[.agg #[.slice x.sa x.sl x.sc, .slice x.ca x.cl x.cc], .agg #[.slice g.sa g.sl g.sc, .slice g.ca g.cl g.cc], .int .i64 side] w fun e w' => e = .returned (.bool true) ∧ Below w.heap.size w w' := by
  cases hs : small9 [x, g]
  · exact whole_big x g side w hx hg hs
  cases hq : rightT x.ss x.cl
  · exact whole_wrong x g side w hx hg hs hq
  by_cases c1 : side < 0
  · exact whole_low x g side w hx hg hs hq c1
  by_cases c2 : (x.sl : Int) ≤ side
  · exact whole_high x g side w hx hg hs hq c1 c2
  obtain ⟨k, rfl⟩ : ∃ k : Nat, side = k := ⟨side.toNat, by omega⟩
  obtain ⟨n, P, M, hN⟩ := num_of (rightT_parts hq).1 (show k < x.ss.length by have := hx.slen; omega)
  cases hq2 : rightT g.ss g.cl
  · exact whole_oka x g k n P M w hx hg hs hq hN hq2
  cases hq3 : sameL g.ss x.ss
  · exact whole_okb x g k n P M w hx hg hs hq hN hq2 hq3
  · exact whole_oko x g k n P M w hx hg hs hq hN hq2 (sameL_eq hq3)
end Go.Proofs.Ytieegaojcjhfdaa

