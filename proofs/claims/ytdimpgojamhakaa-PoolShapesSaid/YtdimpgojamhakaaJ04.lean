import Derived.Test.YtdimpgojamhakaaJ00
import Derived.Test.YtdimpgojamhakaaJ01
import Derived.Test.YtdimpgojamhakaaJ02
import Derived.Test.YtdimpgojamhakaaJ03
import Derived.RangeFuncCalls
import Derived.Shelf.RegionOpen
import Derived.OwnWalkIn
import Derived.TacticsInMore
import Derived.LoopNIn
import Derived.LoopIn
import Derived.BigQuiet
import Derived.ArgAppend
import Derived.RangeFuncBox
import Derived.Deep.RegionWith
/-
  The statements' case of layer 8: a kind, two tensors, a width and a step, in a block and as an argument; small, told, refused.
-/
namespace Go.Proofs.Ytdimpgojamhakaa
open Go.RowKit Go.ChangeShapes Go.WideShapes Go.Deep
set_option linter.unusedVariables false
set_option linter.unusedSimpArgs false

/-- A block holds a case. -/
def C8At (w : World) (K : Nat) (a b c d e f g : Value) : Prop := w.heap[K]? = some (.cells #[a, b, c, d, e, f, g] 36 (0, 0))
section
variable {w w' : World} {K : Nat} {a b c d e f g : Value}
theorem C8At.lt (q : C8At w K a b c d e f g) : K < w.heap.size := (Array.getElem?_eq_some_iff.1 q).1
theorem C8At.kept (q : C8At w K a b c d e f g) (hb : Below w.heap.size w w') : C8At w' K a b c d e f g := (hb.block K q.lt).trans q
theorem C8At.see (q : C8At w K a b c d e f g) : w.cell? ⟨K, 0, none⟩ = some a ∧ (w.cell? ⟨K, 1, none⟩ = some b ∧ w.cell? ⟨K, 2, none⟩ = some c) ∧ (w.cell? ⟨K, 3, none⟩ = some d ∧ w.cell? ⟨K, 4, none⟩ = some e) ∧ (w.cell? ⟨K, 5, none⟩ = some f ∧ w.cell? ⟨K, 6, none⟩ = some g) := by
  refine ⟨?_, ⟨?_, ?_⟩, ⟨?_, ?_⟩, ?_, ?_⟩ <;> (rw [Joins.cell_of_block q]; rfl)
end
theorem case8_box (w : World) (a b c d e f g : Value) : ∃ wB, Hid (w.alloc (.cells #[a, b, c, d, e, f, g] 36) = wB) ∧ Hid (C8At wB w.heap.size a b c d e f g) ∧ Hid (Below w.heap.size w wB) ∧ Hid (wB.heap.size = w.heap.size + 1) :=
  ⟨_, Lib.hid rfl, Lib.hid (World.alloc_heap_new w _), Lib.hid ((Below.refl _ _).alloc (Nat.le_refl _) _), Lib.hid (by simp)⟩

section
variable {H : Type} {enc : TypeId × Value → H} {w : World} {base : Nat} {spare : Nat → Bool} {held : Bool}
theorem ccells8 : Try.prog.cellsOf 36 = 7 := by kernel_rfl
set_option maxRecDepth 100000 in
theorem case8_open {r : Reach} {b0 : Nat} {v : Value} {d : DataW H} {p : List MemPlace} (hv : Value.okWide Try.prog w r b0 36 v)
    (h : DataW.Trod enc Try.prog w base spare held 36 v d p) (hw : ∀ n ∈ d.weights Try.prog 36, n ≤ reachBytes) :
    ∃ (kd : Int) (x G : TV) (wd st : Int), v = .agg #[.int .i64 kd, .slice (TV.sa x) (TV.sl x) (TV.sc x), .slice (TV.ca x) (TV.cl x) (TV.cc x), .slice (TV.sa G) (TV.sl G) (TV.sc G), .slice (TV.ca G) (TV.cl G) (TV.cc G), .int .i64 wd, .int .i64 st] ∧
      ((x.At w ∧ x.Cap ∧ x.CapS) ∧ (G.At w ∧ G.Cap ∧ G.CapS)) := by
  obtain ⟨⟨l⟩, rfl, hsz⟩ := okWide_struct Try.underlying36 hv
  obtain ⟨fuel, hf⟩ := h
  obtain ⟨xs, n, -, hxy, -, hxl, hat⟩ := DataW.trod_struct Try.underlying36 hf
  replace hsz : l.length = Try.prog.cellsOf 36 := hsz
  rw [ccells8] at hsz
  match l, hsz, xs, hxl with
  | [c0, c1, c2, c3, c4, c5, c6], _, [(d0, p0), (d1, p1), (d2, p2), (d3, p3), (d4, p4)], _ =>
    have ed : d = .agg [d0, d1, d2, d3, d4] := by
      have := congrArg Prod.fst hxy
      exact this
    rw [ed] at hw
    have hwe : ∀ {j : Nat} {t : TypeId} {x : DataW H}, [3, 34, 34, 3, 3][j]? = some t → [d0, d1, d2, d3, d4][j]? = some x → ∀ n ∈ x.weights Try.prog t, n ≤ reachBytes := fun ht hd n hn => hw n (by
      simp only [DataW.weights, Try.underlying36]
      exact DataW.weights_mem_each ht hd n hn)
    have h0 := hat 0 _ rfl
    have g0 : DataW.trod enc Try.prog w base spare held n 3 (([c0, c1, c2, c3, c4, c5, c6].drop 0).take (Try.prog.cellsOf 3)) = some (d0, p0) := h0
    rw [gcellsI] at g0
    replace g0 : DataW.trod enc Try.prog w base spare held n 3 [c0] = some (d0, p0) := g0
    obtain ⟨s0, e0, u0a, u0b⟩ := field_int Try.underlying3 g0
    have h1 := hat 1 _ rfl
    have g1 : DataW.trod enc Try.prog w base spare held n 34 (([c0, c1, c2, c3, c4, c5, c6].drop 1).take (Try.prog.cellsOf 34)) = some (d1, p1) := h1
    rw [gcellsG] at g1
    replace g1 : DataW.trod enc Try.prog w base spare held n 34 [c1, c2] = some (d1, p1) := g1
    obtain ⟨t1, e1a, e1b, A1, C1, S1⟩ := grid_one3 g1 (hwe (j := 1) rfl rfl)
    have h2 := hat 2 _ rfl
    have g2 : DataW.trod enc Try.prog w base spare held n 34 (([c0, c1, c2, c3, c4, c5, c6].drop 3).take (Try.prog.cellsOf 34)) = some (d2, p2) := h2
    rw [gcellsG] at g2
    replace g2 : DataW.trod enc Try.prog w base spare held n 34 [c3, c4] = some (d2, p2) := g2
    obtain ⟨t2, e2a, e2b, A2, C2, S2⟩ := grid_one3 g2 (hwe (j := 2) rfl rfl)
    have h3 := hat 3 _ rfl
    have g3 : DataW.trod enc Try.prog w base spare held n 3 (([c0, c1, c2, c3, c4, c5, c6].drop 5).take (Try.prog.cellsOf 3)) = some (d3, p3) := h3
    rw [gcellsI] at g3
    replace g3 : DataW.trod enc Try.prog w base spare held n 3 [c5] = some (d3, p3) := g3
    obtain ⟨s3, e3, u3a, u3b⟩ := field_int Try.underlying3 g3
    have h4 := hat 4 _ rfl
    have g4 : DataW.trod enc Try.prog w base spare held n 3 (([c0, c1, c2, c3, c4, c5, c6].drop 6).take (Try.prog.cellsOf 3)) = some (d4, p4) := h4
    rw [gcellsI] at g4
    replace g4 : DataW.trod enc Try.prog w base spare held n 3 [c6] = some (d4, p4) := g4
    obtain ⟨s4, e4, u4a, u4b⟩ := field_int Try.underlying3 g4
    subst e0 e1a e1b e2a e2b e3 e4
    exact ⟨s0, t1, t2, s3, s4, rfl, ⟨A1, C1, S1⟩, ⟨A2, C2, S2⟩⟩
end

/-- May a case be gone through? -/
def small8 (x G : TV) : Bool := decide (x.sl ≤ 9) && (decide (G.sl ≤ 9) && (decide (x.cl ≤ 600) && decide (G.cl ≤ 600)))
theorem small8_parts {x G : TV} (h : small8 x G = true) : x.sl ≤ 9 ∧ G.sl ≤ 9 ∧ x.cl ≤ 600 ∧ G.cl ≤ 600 := by simpa [small8] using h

set_option maxRecDepth 100000 in
set_option maxHeartbeats 2000000 in
theorem small8_any (kd : Int) (x G : TV) (wd st : Int) (w : World) :
    Calls Try.prog 13 #[.agg #[.int .i64 kd, .slice x.sa x.sl x.sc, .slice x.ca x.cl x.cc, .slice G.sa G.sl G.sc, .slice G.ca G.cl G.cc, .int .i64 wd, .int .i64 st]] w fun e w' => e = .returned (.bool (small8 x G)) ∧ Below w.heap.size w w' := by
  unfold small8
  obtain ⟨wA, hwA, J, z, -⟩ := case8_box w (.int .i64 kd) (.slice x.sa x.sl x.sc) (.slice x.ca x.cl x.cc) (.slice G.sa G.sl G.sc) (.slice G.ca G.cl G.cc) (.int .i64 wd) (.int .i64 st)
  obtain ⟨j0, ⟨j1, j2⟩, ⟨j3, j4⟩, j5, j6⟩ := J.out.see
  by_cases ca : x.sl ≤ 9
  case neg =>
    have E : Hid (false = (decide (x.sl ≤ 9) && (decide (G.sl ≤ 9) && (decide (x.cl ≤ 600) && decide (G.cl ≤ 600))))) := Lib.hid (by simp [ca])
    have da : decide ((x.sl : Int) ≤ 9) = false := decide_eq_false (by omega)
    clear ca
    go_enter Try.func13, Try.ntmps13
    go_upto_region 1 with (fail)
    rw [hwA.out]
    go_wp2_with fail
    go_ret
    exact ⟨ret_bool E.out, z.out⟩
  have da : decide ((x.sl : Int) ≤ 9) = true := decide_eq_true (by omega)
  by_cases cb : G.sl ≤ 9
  case neg =>
    have E : Hid (false = (decide (x.sl ≤ 9) && (decide (G.sl ≤ 9) && (decide (x.cl ≤ 600) && decide (G.cl ≤ 600))))) := Lib.hid (by simp [ca, cb])
    have db : decide ((G.sl : Int) ≤ 9) = false := decide_eq_false (by omega)
    clear ca cb
    go_enter Try.func13, Try.ntmps13
    go_upto_region 1 with (fail)
    rw [hwA.out]
    go_wp2_with fail
    go_ret
    exact ⟨ret_bool E.out, z.out⟩
  have db : decide ((G.sl : Int) ≤ 9) = true := decide_eq_true (by omega)
  by_cases cc : x.cl ≤ 600
  case neg =>
    have E : Hid (false = (decide (x.sl ≤ 9) && (decide (G.sl ≤ 9) && (decide (x.cl ≤ 600) && decide (G.cl ≤ 600))))) := Lib.hid (by simp [ca, cb, cc])
    have dc : decide ((x.cl : Int) ≤ 600) = false := decide_eq_false (by omega)
    clear ca cb cc
    go_enter Try.func13, Try.ntmps13
    go_upto_region 1 with (fail)
    rw [hwA.out]
    go_wp2_with fail
    go_ret
    exact ⟨ret_bool E.out, z.out⟩
  have dc : decide ((x.cl : Int) ≤ 600) = true := decide_eq_true (by omega)
  by_cases ce : G.cl ≤ 600
  case neg =>
    have E : Hid (false = (decide (x.sl ≤ 9) && (decide (G.sl ≤ 9) && (decide (x.cl ≤ 600) && decide (G.cl ≤ 600))))) := Lib.hid (by simp [ca, cb, cc, ce])
    have de : decide ((G.cl : Int) ≤ 600) = false := decide_eq_false (by omega)
    clear ca cb cc ce
    go_enter Try.func13, Try.ntmps13
    go_upto_region 1 with (fail)
    rw [hwA.out]
    go_wp2_with fail
    go_ret
    exact ⟨ret_bool E.out, z.out⟩
  have de : decide ((G.cl : Int) ≤ 600) = true := decide_eq_true (by omega)
  have E : Hid (true = (decide (x.sl ≤ 9) && (decide (G.sl ≤ 9) && (decide (x.cl ≤ 600) && decide (G.cl ≤ 600))))) := Lib.hid (by simp [ca, cb, cc, ce])
  clear ca cb cc ce
  go_enter Try.func13, Try.ntmps13
  go_upto_region 1 with (fail)
  rw [hwA.out]
  go_wp2_with fail
  go_ret
  exact ⟨ret_bool E.out, z.out⟩

set_option maxRecDepth 100000 in
set_option maxHeartbeats 2000000 in
theorem told8_any (a : Option Addr) (l c : Nat) (xs : List Int) (wd st : Int) (w : World) (h : IntsAt w a l xs) :
    Calls Try.prog 11 #[.slice a l c, .int .i64 wd, .int .i64 st] w (PShapeR w xs wd st) := by
  have C := refshape_any a l c xs w h
  cases b1 : rightS xs
  · rw [b1] at C
    have C1 := Lib.hid C
    have E := Lib.hid (psE_wrong (wd := wd) (st := st) b1)
    clear C b1 h
    go_enter Try.func11, Try.ntmps11
    go_wp2_with fail
    refine C1.out.mono ?_
    rintro e w1 ⟨rfl, rfl⟩
    go_wp2_with fail
    go_ret2
    exact PShapeR.err E.out (by omega) ⟨rfl, Below.refl _ _⟩
  rw [b1] at C
  have C1 := Lib.hid C
  obtain ⟨p1, p2, -, -⟩ := rightS_parts b1
  have hl : xs.length = l := h.1
  have H0 := Lib.hid h
  obtain ⟨b, off, rfl, hc⟩ := ints_cell h (by omega)
  obtain ⟨k, rfl⟩ : ∃ k, l = k + 1 := ⟨l - 1, by omega⟩
  have hk : k ≤ 3 := by omega
  have hlast : xs.getD k 0 = lastI xs := by unfold lastI; rw [hl]; rfl
  have kx := hc k (by omega)
  have ER := psE_right (wd := wd) (st := st) b1
  have ES : psS xs wd st = xs.set k (winN (lastI xs) wd st) := by unfold psS; rw [hl]; rfl
  have EP := Lib.hid (show ∀ x e w', psE xs wd st = x → x ≠ 0 → NilE w x e w' → PShapeR w xs wd st e w' from fun x e w' => PShapeR.err)
  have EO := Lib.hid (show ∀ e w', psE xs wd st = 0 → NewE w (k + 1) (xs.set k (winN (lastI xs) wd st)) e w' → PShapeR w xs wd st e w' from fun e w' h0 hn => PShapeR.ok h0 (by rw [hl, ES]; exact hn))
  have HL := Lib.hid hl
  rw [hlast] at kx
  obtain ⟨t, ht⟩ : ∃ t, lastI xs = t := ⟨_, rfl⟩
  rw [ht] at kx ER EO
  have W1 := Lib.hid (refwin_any t wd st)
  have WS := win_sign t wd st
  clear C h hc b1 hl hlast ES ht p1 p2
  obtain ⟨i0, hi, hz0, hz1, hz2⟩ := info_parts intInfo
  rcases winE_or t wd st with he | he
  · have hn1 := WS.1 he
    rw [he] at ER
    obtain ⟨n, hn⟩ : ∃ n, winN t wd st = n := ⟨_, rfl⟩
    rw [hn] at EO W1 hn1
    have hn0 : ¬ n = 0 := by omega
    have ER' := Lib.hid ER
    clear ER hn he WS hn1
    have Z := World.ownsRow_lit w (base := w.heap.size) (e := 3) (size := 1) #[] 0 (Nat.le_refl _) (by unfold maxLen; omega) (by rfl)
    have hnew := cells_news H0.out (.cells #[] 3)
    have hone : ∀ u ∈ xs.map (Value.int .i64), u.oneCell' = true := by
      intro u hu
      obtain ⟨q, -, rfl⟩ := List.mem_map.1 hu
      rfl
    have hb6 : 0 + (k + 1) ≤ maxLen := by unfold maxLen; omega
    have hb7 : (0 + (k + 1)) * 8 ≤ 140737488355328 := by omega
    have hb8 : w.heap.size ≤ (w.alloc (.cells #[] 3)).heap.size := by simp
    have hnl : (xs.map (Value.int .i64)).length = (k + 1) * 1 := by rw [List.length_map, HL.out, Nat.mul_one]
    have hbl : Below w.heap.size w (w.alloc (.cells #[] 3)) := (Below.refl _ _).alloc (Nat.le_refl _) _
    go_enter Try.func11, Try.ntmps11
    go_wp2_with fail
    refine C1.out.mono ?_
    rintro e w1 ⟨rfl, rfl⟩
    go_wp2_with fail
    refine (W1.out w).mono ?_
    rintro e w2 ⟨rfl, rfl⟩
    go_wp2_with (at_builtin; refine wpList_append_own _ rfl _ _ 22 rfl w.heap.size 3 i0 (.int .i64 0) 1 8 Try.underlying22 hi hz0 hz1 hz2 rfl (by decide) _ 0 _ rfl Z ⟨b, off, none⟩ (k + 1) c (xs.map (Value.int .i64)) rfl hnl hnew hone hb6 hb7 hb8 ?_)
    intro v' w5 hown hgrow hnil
    obtain ⟨g, c2, rfl⟩ := Joins.ownsRow_form hown (by omega)
    obtain ⟨g1, g2⟩ := hown.lt g rfl
    obtain ⟨x, hx⟩ : ∃ x, w5.cell? ⟨g, k, none⟩ = some x := by
      have := HL.out
      rw [hown.cellAt k (by omega), List.getElem?_eq_getElem (by simp; omega)]
      exact ⟨_, rfl⟩
    have hf := hown.frozenAt k
    obtain ⟨ho2, hg2⟩ := hown.stored k (.int .i64 n)
    rw [← List.map_set] at ho2
    have hbw : Below w.heap.size w w5 := hbl.grown hgrow hb8 (fun q hq => (Z.lt q hq).1)
    have P := Lib.hid (EO.out (.returned (.tuple #[.slice (some ⟨g, 0, none⟩) (k + 1) c2, .int .i64 0])) (w5.setCell ⟨g, k, none⟩ (.int .i64 n)) ER'.out ⟨_, c2, rfl, ho2, hbw.setCell (by show w.heap.size ≤ g; omega) _⟩)
    clear hown hgrow hnil hnew hone hb6 hb7 hb8 hnl hbl Z ho2 hg2 hbw EO EP kx g1 g2
    go_wp2_with fail
    go_ret2
    exact P.out
  · have hn1 := WS.2 (by omega)
    rw [he] at ER
    rw [hn1] at W1
    have ER' := Lib.hid ER
    clear ER he WS hn1
    go_enter Try.func11, Try.ntmps11
    go_wp2_with fail
    refine C1.out.mono ?_
    rintro e w1 ⟨rfl, rfl⟩
    go_wp2_with fail
    refine (W1.out w).mono ?_
    rintro e w2 ⟨rfl, rfl⟩
    go_wp2_with fail
    go_ret2
    exact EP.out 11 _ _ ER'.out (by omega) ⟨rfl, Below.refl _ _⟩

set_option maxRecDepth 100000 in
set_option maxHeartbeats 2000000 in
theorem refused8_any (kd : Int) (x G : TV) (wd st : Int) (w : World) (h : x.At w) :
    Calls Try.prog 15 #[.agg #[.int .i64 kd, .slice x.sa x.sl x.sc, .slice x.ca x.cl x.cc, .slice G.sa G.sl G.sc, .slice G.ca G.cl G.cc, .int .i64 wd, .int .i64 st]] w fun e w' => e = .returned (.int .i64 (kindE kd x.ss x.cl wd st)) ∧ Below w.heap.size w w' := by
  obtain ⟨wA, hwA, J, z, -⟩ := case8_box w (.int .i64 kd) (.slice x.sa x.sl x.sc) (.slice x.ca x.cl x.cc) (.slice G.sa G.sl G.sc) (.slice G.ca G.cl G.cc) (.int .i64 wd) (.int .i64 st)
  have C := rright8_any x.sa x.sl x.sc x.ss x.ca x.cl x.cc wA (h.1.kept z.out) (by have := h.2.2.2; omega)
  have S := fun w1 (hb : Below wA.heap.size wA w1) => told8_any x.sa x.sl x.sc x.ss wd st w1 ((h.1.kept z.out).kept hb)
  clear h
  obtain ⟨j0, ⟨j1, j2⟩, ⟨j3, j4⟩, j5, j6⟩ := J.out.see
  by_cases ck : kd = 1 ∨ kd = 2
  · cases b1 : rightT x.ss x.cl
    · rw [b1] at C
      have C1 := Lib.hid C
      have E := Lib.hid (kindE_wrong (wd := wd) (st := st) ck b1)
      clear C S b1
      rcases ck with rfl | rfl
      · go_enter Try.func15, Try.ntmps15
        go_upto_region 1 with (fail)
        rw [hwA.out]
        go_wp2_with fail
        refine C1.out.mono ?_
        rintro e w1 ⟨rfl, hb⟩
        go_wp2_with fail
        go_ret
        exact ⟨ret_int E.out.symm, z.out.trans (hb.mono z.out.size)⟩
      · go_enter Try.func15, Try.ntmps15
        go_upto_region 1 with (fail)
        rw [hwA.out]
        go_wp2_with fail
        refine C1.out.mono ?_
        rintro e w1 ⟨rfl, hb⟩
        go_wp2_with fail
        go_ret
        exact ⟨ret_int E.out.symm, z.out.trans (hb.mono z.out.size)⟩
    · rw [b1] at C
      have C1 := Lib.hid C
      have E := Lib.hid (kindE_right (wd := wd) (st := st) ck b1)
      have S1 := Lib.hid S
      clear C S b1
      rcases ck with rfl | rfl
      · go_enter Try.func15, Try.ntmps15
        go_upto_region 1 with (fail)
        rw [hwA.out]
        go_wp2_with fail
        refine C1.out.mono ?_
        rintro e w1 ⟨rfl, hb⟩
        obtain ⟨i0, ⟨i1, i2⟩, ⟨i3, i4⟩, i5, i6⟩ := (J.out.kept hb).see
        have hb3 := Lib.hid (z.out.trans (hb.mono z.out.size))
        have S2 := Lib.hid (S1.out w1 hb)
        clear hb S1 j0 j1 j2 j3 j4 j5 j6
        by_cases c0 : psE x.ss wd st = 0
        · have S3 := Lib.hid (S2.out.mono (fun e w' hh => hh.1 c0))
          have E2 := Lib.hid c0
          clear S2 c0
          go_wp2_with fail
          refine S3.out.mono ?_
          rintro e w2 ⟨A, c, rfl, ho, hb2⟩
          have P := Lib.hid (hb3.out.trans (hb2.mono hb3.out.size))
          clear ho hb2
          go_wp2_with fail
          go_ret
          exact ⟨ret_int (E.out.trans E2.out).symm, P.out⟩
        · have S3 := Lib.hid (S2.out.mono (fun e w' hh => hh.2 c0))
          clear S2 c0
          obtain ⟨u, hu⟩ : ∃ u, psE x.ss wd st = u := ⟨_, rfl⟩
          rw [hu] at S3 E
          clear hu
          go_wp2_with fail
          refine S3.out.mono ?_
          rintro e w2 ⟨rfl, hb2⟩
          go_wp2_with fail
          go_ret
          exact ⟨ret_int E.out.symm, hb3.out.trans (hb2.mono hb3.out.size)⟩
      · go_enter Try.func15, Try.ntmps15
        go_upto_region 1 with (fail)
        rw [hwA.out]
        go_wp2_with fail
        refine C1.out.mono ?_
        rintro e w1 ⟨rfl, hb⟩
        obtain ⟨i0, ⟨i1, i2⟩, ⟨i3, i4⟩, i5, i6⟩ := (J.out.kept hb).see
        have hb3 := Lib.hid (z.out.trans (hb.mono z.out.size))
        have S2 := Lib.hid (S1.out w1 hb)
        clear hb S1 j0 j1 j2 j3 j4 j5 j6
        by_cases c0 : psE x.ss wd st = 0
        · have S3 := Lib.hid (S2.out.mono (fun e w' hh => hh.1 c0))
          have E2 := Lib.hid c0
          clear S2 c0
          go_wp2_with fail
          refine S3.out.mono ?_
          rintro e w2 ⟨A, c, rfl, ho, hb2⟩
          have P := Lib.hid (hb3.out.trans (hb2.mono hb3.out.size))
          clear ho hb2
          go_wp2_with fail
          go_ret
          exact ⟨ret_int (E.out.trans E2.out).symm, P.out⟩
        · have S3 := Lib.hid (S2.out.mono (fun e w' hh => hh.2 c0))
          clear S2 c0
          obtain ⟨u, hu⟩ : ∃ u, psE x.ss wd st = u := ⟨_, rfl⟩
          rw [hu] at S3 E
          clear hu
          go_wp2_with fail
          refine S3.out.mono ?_
          rintro e w2 ⟨rfl, hb2⟩
          go_wp2_with fail
          go_ret
          exact ⟨ret_int E.out.symm, hb3.out.trans (hb2.mono hb3.out.size)⟩
  · have k1 : (kd != 1) = true := bne_iff_ne.2 fun h => ck (.inl h)
    have k2 : (kd != 2) = true := bne_iff_ne.2 fun h => ck (.inr h)
    have E := Lib.hid (kindE_kind (xs := x.ss) (cl := x.cl) (wd := wd) (st := st) ck)
    clear C S ck
    go_enter Try.func15, Try.ntmps15
    go_upto_region 1 with (fail)
    rw [hwA.out]
    go_wp2_with fail
    go_ret
    exact ⟨ret_int E.out.symm, z.out⟩
end Go.Proofs.Ytdimpgojamhakaa

/-
  slices.Chunk over a slice of numbers: the contract of its closure, where the length is a multiple.
-/
namespace Go.Proofs.Ytdimpgojamhakaa
open Go.RowKit Go.Shelf
attribute [local go_sem] Oper.semAt_some
set_option linter.unusedVariables false
set_option linter.unusedSimpArgs false

/-- The r numbers from j on. -/
def upL : Nat → Nat → List Nat
  | _, 0 => []
  | j, r + 1 => j :: upL (j + 1) r

set_option maxHeartbeats 400000 in
theorem chunk_any (a : Option Addr) (len cap n : Nat) (hn : 1 ≤ n) (w : World) :
    Calls Try.prog 46 #[.slice a len cap, .int .i64 n] w fun e w' => e = .returned (.func (.func 54) #[] #[.pointer (some ⟨w.heap.size, 0, none⟩), .pointer (some ⟨w.heap.size + 1, 0, none⟩)]) ∧ (w.alloc (.cells #[.slice a len cap] 32)).alloc (.cells #[.int .i64 n] 3) = w' := by
  have hmf : ∀ (fn : Fn) (first cap : Array Value) (w : World), (Instr.makeFunc fn first cap).run Try.prog w = .ok (.func fn first cap) w := fun _ _ _ _ => rfl
  have hn1 : ¬ (n : Int) < 1 := by omega
  have hn2 : decide ((n : Int) < 1) = false := decide_eq_false hn1
  go_enter Try.func46, Try.ntmps46
  go_wp2_with fail
  go_ret
  exact ⟨rfl, rfl⟩

/-- The closure's boxes hold the slice and the step. -/
def ChunkC (Bs Bn b off L cap n : Nat) (W : World) : Prop := W.cell? ⟨Bs, 0, none⟩ = some (.slice (some ⟨b, off, none⟩) L cap) ∧ W.cell? ⟨Bn, 0, none⟩ = some (.int .i64 n)
def ChunkR (Bs Bn : Nat) : BSet := fun k => k = Bs ∨ k = Bn
theorem ChunkC.round {Bs Bn b off L cap n : Nat} {O : BSet} {W W' : World} (h : ChunkC Bs Bn b off L cap n W) (hs : RdStep (fun k => ChunkR Bs Bn k ∨ O k) W W') : ChunkC Bs Bn b off L cap n W' :=
  ⟨hs.cell h.1 (.inl (.inl rfl)), hs.cell h.2 (.inl (.inr rfl))⟩
theorem chunk_boxes (w : World) (b off cl cc n : Nat) : ChunkC w.heap.size (w.heap.size + 1) b off cl cc n ((w.alloc (.cells #[.slice (some ⟨b, off, none⟩) cl cc] 32)).alloc (.cells #[.int .i64 n] 3)) := by
  refine ⟨?_, ?_⟩
  · refine cell_later ((Below.refl _ _).alloc (Nat.le_refl _) _) ?_
    rw [World.cell?_alloc_at _ _ _ _ rfl]; rfl
  · rw [World.cell?_alloc_at _ _ _ _ (by simp)]; rfl
/-- The j-th piece. -/
def pieceV (b off n : Nat) (j : Nat) : Value := .slice (some ⟨b, off + j * n, none⟩) n n

set_option maxRecDepth 100000 in
set_option maxHeartbeats 2000000 in
theorem chunk_iter (Bs Bn b off cap n M L : Nat) (hn : 1 ≤ n) (hL : L = M * n) (hc1 : L ≤ cap) (hc2 : cap ≤ 9223372036854775807) (hL6 : L ≤ 1000000) :
    IterOf Try.prog 54 #[.pointer (some ⟨Bs, 0, none⟩), .pointer (some ⟨Bn, 0, none⟩)] (ChunkR Bs Bn) (ChunkC Bs Bn b off L cap n) (upL 0 M) (fun (j : Nat) (_ : Unit) => #[pieceV b off n j]) (fun _ _ _ _ => True) := by
  intro l J Jx sJ sJx hY0 W hC h0
  have hY := Lib.hid hY0
  clear hY0
  have HL := Lib.hid hL
  clear hL
  refine (callsIn_wide (n := 0)).1 ?_
  refine callsIn_of_wp Try.func54 rfl trivial ?_ rfl
  simp only [Try.ntmps54, List.size_toArray, List.length_cons, List.length_nil, Nat.reduceAdd, Nat.reduceSub, Array.replicate_succ, Array.replicate_zero, List.push_toArray, List.append_toArray, List.nil_append, List.cons_append]
  gi_wp2
  gi_loopw [4] (fun i wr => ∃ (r j p : Nat) (pre : List Nat), i = .int .i64 p ∧ p + r * n = L ∧ Hid (p = j * n) ∧ Hid (upL 0 M = pre ++ upL j r) ∧ J pre (fun _ => False) wr ∧ ChunkC Bs Bn b off L cap n wr)
    (fun i _ => L - (intOf i).toNat)
  case atStart => exact ⟨M, 0, 0, [], rfl, by rw [HL.out]; omega, Lib.hid (by omega), Lib.hid rfl, h0, hC⟩
  case round =>
    obtain ⟨r, j, p, pre, rfl, hp, hpj, hx, hj, hc⟩ := hrel
    obtain ⟨c1, c2⟩ := hc
    cases r with
    | zero =>
      have e : upL 0 M = pre := by rw [hx.out]; simp [upL]
      rw [← e] at hj
      have hpL : ¬ (p : Int) < (L : Int) := by omega
      clear e hY hx
      gi_wp2
      go_end0
      exact ⟨⟨_, rfl⟩, .inl ⟨_, hj⟩⟩
    | succ r =>
      have hpn : p + n ≤ L := by
        rw [Nat.succ_mul] at hp
        have : 0 ≤ r * n := Nat.zero_le _
        omega
      have hp2 : (p + n) + r * n = L := by rw [Nat.succ_mul] at hp; omega
      have hlt : (p : Int) < (L : Int) := by omega
      have HP := Lib.hid hp2
      clear hp hp2
      gi_wp2_with fail
      have hmin : min (n : Int) ((L - p : Nat) : Int) = n := by omega
      have hmin2 : min (n : Int) ((L : Int) - p) = n := by omega
      refine region_cut2 (ι := Nat) (fun _ => True) (fun _ a => ((((((a.put (some 13) (.int .i64 n)).put (some 14) (.slice (some ⟨b, off, none⟩) L cap)).put (some 15) (.int .i64 p)).put (some 16) (.slice (some ⟨b, off + p, none⟩) (L - p) (cap - p))).put (some 17) (.int .i64 (L - p : Nat))).put (some 18) (.int .i64 n)).put (some 5) (.int .i64 n))
        (fun q => wr.drewN q) ?_ ?_
      · refine wpIn_wide.2 ?_
        go_quiet (fail)
        exact ⟨nq, trivial, rfl, rfl, rfl⟩
      intro q htriv
      clear htriv
      have bq : Below wr.heap.size wr (wr.drewN q) := below_drewN' (Below.refl _ _) q
      obtain ⟨W2, hW2⟩ : ∃ W2, wr.drewN q = W2 := ⟨_, rfl⟩
      have hj2 : J pre (fun _ => False) W2 := by rw [← hW2]; exact sJ _ _ _ _ _ hj (ItStep.of_below bq)
      have d1 : W2.cell? ⟨Bs, 0, none⟩ = some (.slice (some ⟨b, off, none⟩) L cap) := by rw [← hW2]; exact c1
      have d2 : W2.cell? ⟨Bn, 0, none⟩ = some (.int .i64 n) := by rw [← hW2]; exact c2
      have hc2' := Lib.hid (show ChunkC Bs Bn b off L cap n W2 from ⟨d1, d2⟩)
      obtain ⟨fn, tmps, assign, body, hy, hR⟩ := yield_any 0 (hY.out pre j () (upL (j + 1) r) _ W2 hx.out hj2 trivial)
      have epv : pieceV b off n j = .slice (some ⟨b, off + p, none⟩) n n := by rw [hpj.out]; rfl
      rw [epv] at hy
      have HX := Lib.hid (show upL 0 M = (pre ++ [j]) ++ upL (j + 1) r by rw [hx.out]; simp [upL])
      have hpj2 := Lib.hid (show p + n = (j + 1) * n by rw [hpj.out, Nat.succ_mul])
      rw [hW2]
      have hsub : p + n - p = n := by omega
      clear hj c1 c2 hx hY hmin hmin2 bq hW2 hpj epv
      rename_i K1 a1 K2 a2
      refine a2 _ _ ?_
      simp [Act.put]
      gi_wp2_with fail
      refine ⟨rfl, hR.mono ?_⟩
      rintro e W3 ⟨hrd, (⟨rfl, hJ3⟩ | ⟨rfl, hJx3⟩)⟩
      · have hc3 := Lib.hid (hc2'.out.round hrd)
        obtain ⟨x1, x2⟩ := hc3.out
        clear hrd
        gi_wp2
        go_roundw
        case rel => exact ⟨r, j + 1, p + n, pre ++ [j], by go_num, HP.out, hpj2, HX, hJ3, hc3.out⟩
        case measure => (simp [intOf]; try omega)
      · clear hrd
        gi_wp2
        refine bodyPost_ret (results_none rfl _ _ _) rfl ?_
        exact ⟨⟨_, rfl⟩, .inr ⟨_, _, hJx3⟩⟩
end Go.Proofs.Ytdimpgojamhakaa

/-
  The builtin append to a row of one's own: the row that comes back lies where the old one lay, or in a new block.
-/
namespace Go.Proofs.Ytdimpgojamhakaa
open Go.RowKit
set_option linter.unusedVariables false
set_option linter.unusedSimpArgs false

theorem run_append_new {P : Program} (w : World) (base : Nat) (t ty e : TypeId) (i : TypeInfo) (z : Value) (size bytes : Nat) (ht : P.underlying t = some (.slice e)) (hi : P.info? e = some i) (hz : i.zero = some z)
    (hsize : i.size = size) (hby : i.bytes = bytes) (hzs : z.cells.size = size) (hsz : 0 < size)
    (v : Value) (n : Nat) (xs : List Value) (hown : w.ownsRow base e size v n xs)
    (ad : Addr) (m c : Nat) (news : List Value) (hl : news.length = m * size) (hnews : ∀ j u, news[j]? = some u → w.cell? (ad.add j) = some u) (h1 : ∀ u ∈ news, u.oneCell' = true)
    (h63 : n + m ≤ maxLen) (hbytes : (n + m) * bytes ≤ 140737488355328) (hbase : base ≤ w.heap.size) :
    ∃ v' w', (Builtin.append_ #[t, t] ty #[v, .slice (some ad) m c]).run P w = .ok v' w' ∧ w'.ownsRow base e size v' (n + m) (xs ++ news) ∧ w.grownBy w' v.ownBlock ∧ (∀ q, v'.ownBlock = some q → v.ownBlock = some q ∨ w.heap.size ≤ q) := by
  have hown0 := hown
  rcases hown.2 with ⟨rfl, rfl⟩ | ⟨g, cap, cur, rfl, hbg, hg, hnc, hcm, hcs, htk⟩
  · have hx : xs = [] := List.eq_nil_of_length_eq_zero (by have := hown.1; simpa using this)
    subst hx
    obtain ⟨v', w', hr, r1, r2, -⟩ := run_append_own (P := P) w w.heap.size t ty e i z size bytes ht hi hz hsize hby hzs hsz (.slice none 0 0) 0 [] (World.ownsRow_nil w _ e size) ad m c news hl hnews h1 h63 hbytes (Nat.le_refl _)
    exact ⟨v', w', hr, Joins.ownsRow_le r1 hbase, r2, fun q hq => .inr (r1.lt q hq).1⟩
  · by_cases hroom : n + m ≤ cap
    · obtain ⟨w', hr, r1, r2⟩ := run_append_fits (P := P) w base t ty e i size ht hi hsize g n cap xs hown0 ad m c news hl hnews h1 hroom
      exact ⟨_, w', hr, r1, r2, fun q hq => .inl hq⟩
    · have hxl : xs.length = n * size := hown.1
      have holds : ∀ j u, xs[j]? = some u → w.cell? ((⟨g, 0, none⟩ : Addr).add j) = some u := fun j u hj => hown0.cells rfl j u hj
      obtain ⟨v', w', hr, r1, r2⟩ := run_append_arg_grows (P := P) w t ty e i z size bytes ht hi hz hsize hby hzs hsz ⟨g, 0, none⟩ n cap xs hxl holds ad m c news hl hnews (by omega) h63 hbytes
      exact ⟨v', w', hr, Joins.ownsRow_le r1 hbase, ⟨r2.os, r2.tape, r2.output, r2.size, fun k hk _ => r2.block k hk (by intro e'; cases e')⟩, fun q hq => .inr (r1.lt q hq).1⟩

theorem wpListIn_append_new {F : Fence} {fn : Nat} {P : Program} (w : World) {ops : Array Oper} {rest : List Oper} {o : Oper} {a : Act} {Q : Exit → Act → World → Prop}
    (hg : o.guard = none) (s x : Operand) (t : TypeId) (hop : o.op = Op.call { callee := Callee.builtin Builtin.append, args := #[s, x], argTypes := #[t, t] })
    (base : Nat) (e : TypeId) (i : TypeInfo) (z : Value) (size bytes : Nat) (h1 : P.underlying t = some (.slice e)) (h2 : P.info? e = some i) (h3 : i.zero = some z) (h4 : i.size = size) (h5 : i.bytes = bytes) (h6 : z.cells.size = size) (h7 : 0 < size)
    (v : Value) (k : Nat) (xs : List Value) (hs : a.eval s = v) (hown : w.ownsRow base e size v k xs) (ad : Addr) (m c : Nat) (news : List Value) (hx : a.eval x = .slice (some ad) m c) (hn : news.length = m * size)
    (hc : ∀ j u, news[j]? = some u → w.cell? (ad.add j) = some u) (h1c : ∀ u ∈ news, u.oneCell' = true) (b1 : k + m ≤ maxLen) (b2 : (k + m) * bytes ≤ 140737488355328) (b3 : base ≤ w.heap.size)
    (hK : ∀ v' w', w'.ownsRow base e size v' (k + m) (xs ++ news) → w.grownBy w' v.ownBlock → (∀ q, v'.ownBlock = some q → v.ownBlock = some q ∨ w.heap.size ≤ q) → wpListIn F fn P ops Q rest (a.put o.dst v') w') :
    wpListIn F fn P ops Q (o :: rest) a w := by
  refine wpListIn_plain hg fun K hK' => ?_
  obtain ⟨v', w', hrun, r1, r2, r3⟩ := run_append_new (P := P) w base t o.type e i z size bytes h1 h2 h3 h4 h5 h6 h7 v k xs hown ad m c news hn hc h1c b1 b2 b3
  unfold Oper.wpIn
  refine ⟨?_, ?_⟩
  · simp [Oper.about, hop, resolve, Target.leads, Sem.run_pure]
  · rw [Oper.semAt_plain F _ _ (by rw [hop]; intro c hc'; cases hc')]
    simp [execOp, hop, resolve, invoke, builtin, hs, hx, hrun, Result.andThen]
    exact hK' _ _ (hK v' w' r1 r2 r3)
end Go.Proofs.Ytdimpgojamhakaa

/-
  slices.AppendSeq and slices.Collect over the pieces of a slice; the pieces of a tensor's cells.
-/
namespace Go.Proofs.Ytdimpgojamhakaa
open Go.RowKit Go.Shelf
attribute [local go_sem] Oper.semAt_some
set_option linter.unusedVariables false
set_option linter.unusedSimpArgs false

theorem sInfo : (Try.prog.info? 32).map (fun i => (i.zero, i.size, i.bytes)) = some (some (.slice none 0 0), 1, 24) := by kernel_rfl

theorem row_it {B : Nat} {e : TypeId} {v : Value} {n : Nat} {xs : List Value} {O O' : BSet} {W W' : World} (h : W.ownsRow B e 1 v n xs) (hO : ∀ q, v.ownBlock = some q → ¬ O q) (hs : ItStep O W O' W') :
    W'.ownsRow B e 1 v n xs ∧ ∀ q, v.ownBlock = some q → ¬ O' q := by
  have hlt := h.lt
  refine ⟨?_, fun q hq => not_own hs (hlt q hq).2 (hO q hq)⟩
  rcases h.2 with h2 | ⟨g, cap, cur, hv, hbg, hg, rest⟩
  · exact ⟨h.1, .inl h2⟩
  · have hq : v.ownBlock = some g := by rw [hv]; rfl
    exact ⟨h.1, .inr ⟨g, cap, cur, hv, hbg, (hs.block g (hlt g hq).2 (hO g hq)).trans hg, rest⟩⟩

/-- Between two rounds: the box holds a new row of the pieces so far. -/
def ColI (w : World) (b off n : Nat) (pre : List Nat) (O : BSet) (W : World) : Prop :=
  ∃ v, Has O W w.heap.size #[v] 61 ∧ W.ownsRow w.heap.size 32 1 v pre.length (pre.map (pieceV b off n)) ∧ (∀ q, v.ownBlock = some q → ¬ O q) ∧ Base w O W ∧ (∀ k, O k → k < W.heap.size)
theorem ColI.stable (w : World) (b off n : Nat) (pre : List Nat) : Stable (ColI w b off n pre) := by
  rintro O W O' W' ⟨v, h1, h2, h3, h4, h5⟩ hs
  obtain ⟨r1, r2⟩ := row_it h2 h3 hs
  exact ⟨v, h1.stable hs, r1, r2, h4.stable hs, fun k hk => (hs.top k hk).elim (fun h => Nat.lt_of_lt_of_le (h5 k h) hs.size) id⟩

theorem upL_mem : ∀ (r j x : Nat), x ∈ upL j r → j ≤ x ∧ x < j + r := by
  intro r
  induction r with
  | zero => intro j x h; simp [upL] at h
  | succ r ih =>
    intro j x h
    simp only [upL, List.mem_cons] at h
    rcases h with rfl | h
    · omega
    · have := ih _ _ h; omega
theorem upL_length : ∀ (r j : Nat), (upL j r).length = r := by
  intro r
  induction r with
  | zero => intro j; rfl
  | succ r ih => intro j; simp [upL, ih]

end Go.Proofs.Ytdimpgojamhakaa
/-
  Regions that draw their order, within a round: walked as outside.
-/
namespace Go.Proofs.Ytdimpgojamhakaa
open Go.RowKit
set_option linter.unusedVariables false
set_option linter.unusedSimpArgs false

/-- No operation is a defer statement. -/
def noDefer (ops : Array Oper) : Bool := ops.toList.all fun o => match o.op with | .defer _ => false | _ => true
theorem noDefer_at {ops : Array Oper} (h : noDefer ops = true) {i : Nat} {o : Oper} (ho : ops[i]? = some o) : ∀ c, o.op ≠ .defer c := by
  intro c hc
  unfold noDefer at h
  rw [List.all_eq_true] at h
  have := h o (by rw [← Array.getElem?_toList] at ho; exact List.mem_of_getElem? ho)
  rw [hc] at this
  simp at this
section
variable {P : Program} {md : Region.Mode} {ops : Array Oper} {Q : Exit → Act → World → Prop} {S : World → Prop}
theorem round_op {l n i : Nat} {K : Act → World → Prop} {a : Act} {w : World} (hd : noDefer ops = true) (hL : ¬ LetsOut Q) (h : wpOp P ops Q i K a w) : wpOpIn (Fence.wide.inRound l) n P ops Q i K a w := by
  unfold wpOp at h
  unfold wpOpIn
  cases ho : ops[i]? with
  | none => simpa only [ho] using h
  | some o =>
    simp only [ho] at h ⊢
    by_cases hw : Region.wanted o (yielded ops a.tmps) = true
    · rw [if_pos hw] at h ⊢
      rcases h with h | ⟨_, hl⟩
      · unfold Oper.wp at h
        unfold Oper.wpIn
        refine ⟨fun _ _ => trivial, ?_⟩
        rw [Oper.semAt_plain _ _ _ (noDefer_at hd ho)]
        generalize (execOp a.eval o).run P w = r at h ⊢
        cases r with
        | ok x w' =>
          have hdep : (Fence.wide.inRound l).depth.isSome = true → 1 ≤ n := fun hd => by simp [Fence.wide, Fence.inRound] at hd
          cases x
          case value => exact h
          case skip => exact h
          case defer => exact h
          case enter f args => exact ⟨hdep, CallsIn.mono (CallsIn.inRound l (callsIn_wide.2 h)) (fun e w'' he => by cases e <;> exact he)⟩
          case row row args => exact ⟨hdep, fun c cs _ => let ⟨v, w1, r, s⟩ := h c cs; ⟨v, w1, r, stepsIn_wide.2 s⟩⟩
          all_goals exact h.elim
        | halt x w' => cases x <;> simp only [Oper.upon, Oper.uponIn] at h ⊢ <;> exact h
      · exact absurd hl hL
    · rw [if_neg hw] at h ⊢
      exact ⟨fun _ _ => trivial, h⟩
theorem round_any {l n : Nat} (hd : noDefer ops = true) (hL : ¬ LetsOut Q) : ∀ (fuel : Nat) (listed : Array Bool) (a : Act) (w : World), wpAny P md ops Q fuel listed a w → wpAnyIn (Fence.wide.inRound l) n P md ops Q fuel listed a w
  | 0, _, _, _, h => h
  | fuel + 1, _, _, _, h => ⟨h.1, fun i hi => wpOpIn_mono (fun a' w' h' => round_any hd hL fuel _ a' w' h') (round_op hd hL (h.2 i hi))⟩
/-- A region within a round: from the world behind the draw, as outside. -/
theorem round_held {l n id : Nat} {a : Act} {w : World} (hm : P.follows .mixedOrders = true) (hd : noDefer ops = true) (hL : ¬ LetsOut Q) (hS : S w.drew)
    (h : S w.drew → wpAnyH P .any ops Q S ops.size (Array.replicate ops.size false) a w.drew) : (Code.region id ops true).wpIn (Fence.wide.inRound l) n P Q a w :=
  wpIn_region_any hm (round_any hd hL _ _ _ _ (wpAny_of_held _ _ _ _ (h hS)))
theorem cutP_shut {ι : Type} {H : ι → Prop} {f : ι → Act → Act} {w₀ : ι → World} {a : Act} : ¬ LetsOut (CutP H f w₀ a) := by
  rintro ⟨_, _, _, _, h, _⟩
  cases h
/-- One way out alone: cut behind the region. -/
theorem round_cut {l n id : Nat} {a : Act} {w : World} {K : Act → World → Prop} {Q' : Exit → Act → World → Prop} {ι : Type} (H : ι → Prop) (f : ι → Act → Act) (w₀ : ι → World) (S : World → Prop) (hm : P.follows .mixedOrders = true) (hd : noDefer ops = true) (hS : S w.drew)
    (h : S w.drew → wpAnyH P .any ops (CutP H f w₀ a) S ops.size (Array.replicate ops.size false) a w.drew) (hk : ∀ x, H x → K (f x a) (w₀ x)) : (Code.region id ops true).wpIn (Fence.wide.inRound l) n P (Exit.then K Q') a w :=
  region_cut2 H f w₀ (round_held hm hd cutP_shut hS h) hk
/-- The same, whatever stands behind. -/
theorem round_cutQ {l n id : Nat} {a : Act} {w : World} {ι : Type} (H : ι → Prop) (f : ι → Act → Act) (w₀ : ι → World) (S : World → Prop) (hm : P.follows .mixedOrders = true) (hd : noDefer ops = true) (hS : S w.drew)
    (h : S w.drew → wpAnyH P .any ops (CutP H f w₀ a) S ops.size (Array.replicate ops.size false) a w.drew) (hk : ∀ x, H x → Q .normal (f x a) (w₀ x)) : (Code.region id ops true).wpIn (Fence.wide.inRound l) n P Q a w :=
  wpIn_mono (round_held hm hd cutP_shut hS h) (by rintro e a' w' ⟨x, hx, rfl, rfl, rfl⟩; exact hk x hx)
end
end Go.Proofs.Ytdimpgojamhakaa

/-
  Package pool's windows: what stays between its rounds; the builtin append of one cell as one operation.
-/
namespace Go.Proofs.Ytdimpgojamhakaa
open Go.RowKit Go.Shelf
set_option linter.unusedVariables false
set_option linter.unusedSimpArgs false

/-- A window: where it begins and how far its row goes on. -/
def winV (b off wn : Nat) (p : Nat × Nat) : Value := .slice (some ⟨b, off + p.1, none⟩) wn p.2
/-- The builtin append of one cell, of any type of one cell, to a row of one's own. -/
theorem wp_append_cell {w : World} {o : Oper} {a : Act} {K : Act → World → Prop} {Q : Exit → Act → World → Prop} (s x : Operand) (t e : TypeId)
    (ho : o.op = .call { callee := .builtin .append, args := #[s, x], argTypes := #[t, t] }) (hu : Try.prog.underlying t = some (.slice e)) (i0 : TypeInfo) (z : Value) (by0 : Nat) (hi : Try.prog.info? e = some i0) (hz0 : i0.zero = some z) (hz1 : i0.size = 1) (hz2 : i0.bytes = by0) (hz3 : z.cells.size = 1)
    (B : Nat) (v : Value) (n : Nat) (xs : List Value) (hs : a.eval s = v) (hown : w.ownsRow B e 1 v n xs)
    (g : Nat) (c : Nat) (u : Value) (hx : a.eval x = .slice (some ⟨g, 0, none⟩) 1 c) (hu1 : w.cell? ⟨g, 0, none⟩ = some u) (hu2 : u.oneCell' = true) (hb : n + 1 ≤ maxLen) (hby : (n + 1) * by0 ≤ 140737488355328) (hbase : B ≤ w.heap.size)
    (h : ∀ v' w', w'.ownsRow B e 1 v' (n + 1) (xs ++ [u]) → w.grownBy w' v.ownBlock → (v'.ownBlock = v.ownBlock ∨ v'.ownBlock = some w.heap.size) → K (a.put o.dst v') w') : o.wp Try.prog a w K Q := by
  obtain ⟨v', w', hr, h2, h3, -, h5⟩ := run_append_own_at (P := Try.prog) w B t o.type e i0 z 1 by0 hu hi hz0 hz1 hz2 hz3 (by decide) v n xs hown ⟨g, 0, none⟩ 1 c [u] (by simp) (by
    intro j q hj
    match j, hj with
    | 0, hj =>
      simp at hj
      subst hj
      rw [Addr.add_lit]
      exact hu1) (by intro q hq; simp at hq; subst hq; exact hu2) hb hby hbase
  unfold Oper.wp execOp
  simp only [ho, resolve, invoke, builtin, Sem.run_bind, Sem.run_pure, Result.andThen_ok, List.map_toArray, List.map_cons, List.map_nil, hs, hx, hr]
  exact h v' w' h2 h3 h5

/-- Within windows: the boxes of its variables, the list so far in a row of one's own. -/
structure WinJ (w : World) (gs : Array Value) (wd st : Int) (b off wn : Nat) (v : Value) (ws : List (Nat × Nat)) (O : BSet) (W : World) : Prop where
  grid : Has O W w.heap.size gs 34
  width : Has O W (w.heap.size + 1) #[.int .i64 wd] 3
  step : Has O W (w.heap.size + 2) #[.int .i64 st] 3
  list : Has O W (w.heap.size + 3) #[v] 61
  row : W.ownsRow (w.heap.size + 6) 32 1 v ws.length (ws.map (winV b off wn))
  mine : ∀ q, v.ownBlock = some q → ¬ O q
  base : Base w O W
  top : ∀ k, O k → k < W.heap.size
  size : w.heap.size + 6 ≤ W.heap.size
theorem WinJ.stable {w : World} {gs : Array Value} {wd st : Int} {b off wn : Nat} {v : Value} {ws : List (Nat × Nat)} {O O' : BSet} {W W' : World} (h : WinJ w gs wd st b off wn v ws O W) (hs : ItStep O W O' W') : WinJ w gs wd st b off wn v ws O' W' := by
  obtain ⟨r1, r2⟩ := row_it h.row h.mine hs
  exact ⟨h.grid.stable hs, h.width.stable hs, h.step.stable hs, h.list.stable hs, r1, r2, h.base.stable hs, fun k hk => (hs.top k hk).elim (fun h' => Nat.lt_of_lt_of_le (h.top k h') hs.size) id, Nat.le_trans h.size hs.size⟩
theorem WinJ.drew {w : World} {gs : Array Value} {wd st : Int} {b off wn : Nat} {v : Value} {ws : List (Nat × Nat)} {O : BSet} {W : World} (h : WinJ w gs wd st b off wn v ws O W) : WinJ w gs wd st b off wn v ws O W.drew := h.stable (ItStep.of_below (Below.refl _ _).drew)
/-- One window more. -/
theorem WinJ.snoc {w : World} {gs : Array Value} {wd st : Int} {b off wn : Nat} {v v' : Value} {ws : List (Nat × Nat)} {O : BSet} {W W6 : World} {p : Nat × Nat} {box : Obj} (h : WinJ w gs wd st b off wn v ws O W)
    (hown : W6.ownsRow (w.heap.size + 6) 32 1 v' (ws.length + 1) (ws.map (winV b off wn) ++ [winV b off wn p])) (hgrow : (W.alloc box).grownBy W6 v.ownBlock) (hwhere : v'.ownBlock = v.ownBlock ∨ v'.ownBlock = some (W.alloc box).heap.size) :
    WinJ w gs wd st b off wn v' (ws ++ [p]) O (W6.setCell ⟨w.heap.size + 3, 0, none⟩ v') ∧ RdStep (fun k => ChunkR (w.heap.size + 4) (w.heap.size + 5) k ∨ O k) W (W6.setCell ⟨w.heap.size + 3, 0, none⟩ v') := by
  have hrow : ∀ q, v.ownBlock = some q → w.heap.size + 6 ≤ q := fun q hq => (h.row.lt q hq).1
  have hsz6 : W.heap.size ≤ (W6.setCell ⟨w.heap.size + 3, 0, none⟩ v').heap.size := by have := hgrow.size; simp at this ⊢; omega
  have keep : ∀ k, k < W.heap.size → some k ≠ v.ownBlock → W6.heap[k]? = W.heap[k]? := fun k hk hne => (hgrow.block k (by simp; omega) hne).trans (Below.heap_alloc _ _ _ hk)
  have low : ∀ k, k < w.heap.size + 6 → some k ≠ v.ownBlock := fun k hk e => by have := hrow k e.symm; omega
  have keep2 : ∀ k, k < W.heap.size → some k ≠ v.ownBlock → k ≠ w.heap.size + 3 → (W6.setCell ⟨w.heap.size + 3, 0, none⟩ v').heap[k]? = W.heap[k]? := fun k hk h1 h2 => (Below.heap_setCell W6 ⟨w.heap.size + 3, 0, none⟩ _ k h2).trans (keep k hk h1)
  have hz := h.size
  have a1 : Has O W6 (w.heap.size + 3) #[v] 61 := ⟨h.list.1, (keep _ (by omega) (low _ (by omega))).trans h.list.2⟩
  have hbf : Below w.heap.size W (W6.setCell ⟨w.heap.size + 3, 0, none⟩ v') :=
    ((((Below.refl _ W).alloc (by omega) box).grown hgrow (by simp; omega) (fun q hq => by have := hrow q hq; omega)).setCell (p := ⟨w.heap.size + 3, 0, none⟩) (by simp) v')
  refine ⟨⟨⟨h.grid.1, (keep2 _ (by omega) (low _ (by omega)) (by omega)).trans h.grid.2⟩, ⟨h.width.1, (keep2 _ (by omega) (low _ (by omega)) (by omega)).trans h.width.2⟩, ⟨h.step.1, (keep2 _ (by omega) (low _ (by omega)) (by omega)).trans h.step.2⟩, a1.set 0 v', ?_, ?_, ⟨h.base.1.trans hbf, h.base.2⟩, fun k hk => Nat.lt_of_lt_of_le (h.top k hk) hsz6, Nat.le_trans h.size hsz6⟩, ⟨hbf.os, hbf.tape, hbf.output, hsz6, fun k hk hm => keep2 k hk (fun e => ?_) (fun e => ?_)⟩⟩
  · rw [List.length_append, List.map_append]
    exact row_far hown (by simp)
  · intro q hq ho
    rcases hwhere with e | e
    · exact h.mine q (e ▸ hq) ho
    · have := h.top q ho
      rw [e] at hq
      simp only [Option.some.injEq] at hq
      subst hq
      simp at this
      omega
  · rcases hm with (h' | h') | h'
    · exact low k (by omega) e
    · exact low k (by omega) e
    · exact h.mine k e.symm h'
  · rcases hm with (h' | h') | h'
    · omega
    · omega
    · exact h.list.1 (e ▸ h')
theorem WinJ.start (w W : World) (gs : Array Value) (wd st : Int) (b off wn : Nat) (h1 : W.heap[w.heap.size]? = some (.cells gs 34 (0, 0))) (h2 : W.heap[w.heap.size + 1]? = some (.cells #[.int .i64 wd] 3 (0, 0))) (h3 : W.heap[w.heap.size + 2]? = some (.cells #[.int .i64 st] 3 (0, 0))) (h4 : W.heap[w.heap.size + 3]? = some (.cells #[.slice none 0 0] 61 (0, 0)))
    (hb : Below w.heap.size w W) (hs : w.heap.size + 6 ≤ W.heap.size) : WinJ w gs wd st b off wn (.slice none 0 0) [] (fun _ => False) W :=
  ⟨⟨fun h => h, h1⟩, ⟨fun h => h, h2⟩, ⟨fun h => h, h3⟩, ⟨fun h => h, h4⟩, World.ownsRow_nil _ _ _ _, (fun _ h => by cases h), ⟨hb, fun _ h => h.elim⟩, fun _ h => h.elim, hs⟩
/-- The rounds' numbers are those of the pieces. -/
theorem upL_at : ∀ (M j : Nat) (pre : List Nat) (x : Nat) (rest : List Nat), upL j M = pre ++ x :: rest → x = j + pre.length ∧ pre.length < M := by
  intro M
  induction M with
  | zero => intro j pre x rest h; simp [upL] at h
  | succ M ih =>
    intro j pre x rest h
    cases pre with
    | nil => simp only [upL, List.nil_append, List.cons.injEq] at h; simp [h.1.symm]
    | cons y pre =>
      simp only [upL, List.cons_append, List.cons.injEq] at h
      have := ih (j + 1) pre x rest h.2
      simp only [List.length_cons]
      omega
end Go.Proofs.Ytdimpgojamhakaa

/-
  The contract of package pool's windows.
-/
namespace Go.Proofs.Ytdimpgojamhakaa
open Go.RowKit Go.Shelf
attribute [local go_sem] Oper.semAt_some
set_option linter.unusedVariables false
set_option linter.unusedSimpArgs false

set_option maxRecDepth 100000 in
set_option maxHeartbeats 8000000 in
theorem windows_any (sa : Option Addr) (sl sc : Nat) (ss : List Int) (b off cl cc : Nat) (cs : List Int) (wd st : Int) (side wn s n R : Nat) (w : World) (h : IntsAt w sa sl ss) (hp : PoolN ss wd st side wn s n R) (hl : 1 ≤ ss.length) (hl4 : ss.length ≤ 4) (hcl : cl = R * side) (hcc : cl ≤ cc) (hccm : cc ≤ 9223372036854775807) :
    Calls Try.prog 31 #[.agg #[.slice sa sl sc, .slice (some ⟨b, off, none⟩) cl cc], .int .i64 wd, .int .i64 st] w
      fun e w' => ∃ A c, e = .returned (.slice A (R * n) c) ∧ w'.ownsRow w.heap.size 32 1 (.slice A (R * n) c) (R * n) ((winsL side s n R).map (winV b off wn)) ∧ Below w.heap.size w w' := by
  have hsl : ss.length = sl := h.1
  obtain ⟨k, rfl⟩ : ∃ k, sl = k + 1 := ⟨sl - 1, by omega⟩
  have hk : k ≤ 3 := by omega
  obtain ⟨sb, so, rfl, hcs⟩ := ints_cell h (by omega)
  have hck := hcs k (by omega)
  have hlast : ss.getD k 0 = side := by rw [← hp.last]; unfold lastI; rw [hsl]; rfl
  rw [hlast] at hck
  have ewd := hp.wdE
  have est := hp.stE
  subst ewd est
  have hside : side ≤ 1024 := hp.side2
  have hwn : wn ≤ 1024 := hp.w2
  have hs2 : s ≤ 1024 := hp.s2
  have hside1 : 1 ≤ side := by have := hp.w1; have := hp.ws; omega
  have hs1 : 1 ≤ s := hp.s1
  have hcl6 : cl ≤ 65536 := by rw [hcl]; exact hp.most
  have hRn : R * n ≤ 65536 := Nat.le_trans hp.outle hp.most
  obtain ⟨B, hB⟩ : ∃ B, w.heap.size = B := ⟨_, rfl⟩
  have bel : ∀ (V : World) (o : Obj), Below V.heap.size V (V.alloc o) := fun V o => (Below.refl _ _).alloc (Nat.le_refl _) _
  obtain ⟨wA, hwA, J1, z1, n1⟩ := grid_box w (.slice (some ⟨sb, so, none⟩) (k + 1) sc) (.slice (some ⟨b, off, none⟩) cl cc)
  rw [hB] at J1 n1
  obtain ⟨wC, hwC⟩ : ∃ wC, wA.alloc (.cells #[.int .i64 wn] 3) = wC := ⟨_, rfl⟩
  have z2 := bel wA (.cells #[.int .i64 wn] 3)
  have j2 := World.alloc_heap_new wA (.cells #[.int .i64 wn] 3)
  rw [hwC] at z2 j2
  have n2 : wC.heap.size = B + 2 := by rw [← hwC]; simp [n1.out]
  obtain ⟨wD, hwD⟩ : ∃ wD, wC.alloc (.cells #[.int .i64 s] 3) = wD := ⟨_, rfl⟩
  have z3 := bel wC (.cells #[.int .i64 s] 3)
  have j3 := World.alloc_heap_new wC (.cells #[.int .i64 s] 3)
  rw [hwD] at z3 j3
  have n3 : wD.heap.size = B + 3 := by rw [← hwD]; simp [n2]
  obtain ⟨wE, hwE⟩ : ∃ wE, wD.alloc (.cells #[.slice none 0 0] 61) = wE := ⟨_, rfl⟩
  have z4 := bel wD (.cells #[.slice none 0 0] 61)
  have j4 := World.alloc_heap_new wD (.cells #[.slice none 0 0] 61)
  rw [hwE] at z4 j4
  have n4 : wE.heap.size = B + 4 := by rw [← hwE]; simp [n3]
  rw [n1.out] at j2
  rw [n2] at j3
  rw [n3] at j4
  have y3 := z3.trans (z4.mono z3.size)
  have y2 := z2.trans (y3.mono z2.size)
  have y1 := z1.out.trans (y2.mono z1.out.size)
  have g1 : GAt wE B (.slice (some ⟨sb, so, none⟩) (k + 1) sc) (.slice (some ⟨b, off, none⟩) cl cc) := J1.out.kept y2
  have g2 : wE.heap[B + 1]? = some (.cells #[.int .i64 wn] 3 (0, 0)) := (y3.block _ (by omega)).trans j2
  have g3 : wE.heap[B + 2]? = some (.cells #[.int .i64 s] 3 (0, 0)) := (z4.block _ (by omega)).trans j3
  have Y := Lib.hid y1
  have hc1 : wE.cell? ⟨sb, so + k, none⟩ = some (.int .i64 side) := cell_later y1 hck
  have CB : Hid (∀ w4, (wE.drew.alloc (.cells #[.slice (some ⟨b, off, none⟩) cl cc] 32)).alloc (.cells #[.int .i64 side] 3) = w4 → WinJ w #[.slice (some ⟨sb, so, none⟩) (k + 1) sc, .slice (some ⟨b, off, none⟩) cl cc] wn s b off wn (.slice none 0 0) [] (fun _ => False) w4 ∧ ChunkC (B + 4) (B + 5) b off cl cc side w4 ∧ w4.heap.size = B + 6 ∧ Below wE.heap.size wE w4) := Lib.hid (by
    rintro w4 e4
    have q := chunk_boxes wE.drew b off cl cc side
    have hb4 : Below wE.heap.size wE w4 := by
      rw [← e4]
      have h1 := ((Below.refl wE.heap.size wE).drew).alloc (Nat.le_refl _) (.cells #[.slice (some ⟨b, off, none⟩) cl cc] 32)
      exact h1.alloc h1.size _
    have hz4 : w4.heap.size = B + 6 := by rw [← e4]; simp [n4]
    obtain ⟨k1, k2, k3, k4⟩ : w4.heap[B]? = wE.heap[B]? ∧ w4.heap[B + 1]? = wE.heap[B + 1]? ∧ w4.heap[B + 2]? = wE.heap[B + 2]? ∧ w4.heap[B + 3]? = wE.heap[B + 3]? := ⟨hb4.block _ (by omega), hb4.block _ (by omega), hb4.block _ (by omega), hb4.block _ (by omega)⟩
    have hbw : Below w.heap.size w w4 := by rw [hB]; have := y1.trans (hb4.mono y1.size); rw [hB] at this; exact this
    refine ⟨WinJ.start w w4 _ _ _ _ _ _ (by rw [hB, k1]; exact g1) (by rw [hB, k2]; exact g2) (by rw [hB, k3]; exact g3) (by rw [hB, k4]; exact j4) hbw (by omega), ?_, hz4, hb4⟩
    have e5 : wE.drew.heap.size = B + 4 := n4
    rw [e5, e4] at q
    exact q)
  have CHK := Lib.hid (fun w1 => chunk_any (some ⟨b, off, none⟩) cl cc side hside1 w1)
  have SK := Lib.hid (fun w' (hb : Below wE.heap.size wE w') => (⟨(g1.kept hb).see.1, (g1.kept hb).see.2.1, cell_later hb hc1⟩ :
    w'.cell? ⟨B, 0, none⟩ = some (.slice (some ⟨sb, so, none⟩) (k + 1) sc) ∧ w'.cell? ⟨B, 1, none⟩ = some (.slice (some ⟨b, off, none⟩) cl cc) ∧ w'.cell? ⟨sb, so + k, none⟩ = some (.int .i64 side)))
  have u0 := SK.out _ (Below.refl _ _)
  have t0 := Lib.hid (Below.refl wE.heap.size wE).drew
  have u1 := SK.out _ t0.out
  have HP := Lib.hid hp
  have HB := Lib.hid hB
  have HCL := Lib.hid hcl
  have HWD := Lib.hid hwD
  have HWC := Lib.hid hwC
  have HWE := Lib.hid hwE
  have N1 := n1
  have N2 := Lib.hid n2
  have N3 := Lib.hid n3
  have N4 := Lib.hid n4
  clear h hp hB hcl hcs hck hc1 hlast g1 g2 g3 j2 j3 j4 J1 z1 z2 z3 z4 y1 y2 y3 hwC hwD hwE n1 n2 n3 n4 hsl hl hl4 bel
  have x1 : (0 : Int) ≤ (k : Int) := by omega
  have x2 : (k : Int) < ((k + 1 : Nat) : Int) := by omega
  have x3 : (k : Int) < (k : Int) + 1 := by omega
  have x4 : IntKind.i64.wrap (((k + 1 : Nat) : Int) - 1) = (k : Int) := by rw [show ((k + 1 : Nat) : Int) - 1 = (k : Int) by omega]; exact IntWalk.i64_in _ (by omega)
  have x5 : IntKind.i64.wrap (k : Int) = (k : Int) := IntWalk.i64_in _ (by omega)
  refine (callsIn_wide (n := 1)).1 ?_
  refine callsIn_of_wp_marks Try.func31 rfl trivial ?_ rfl
  simp only [Try.ntmps31, List.size_toArray, List.length_cons, List.length_nil, Nat.reduceAdd, Nat.reduceSub, Array.replicate_succ, Array.replicate_zero, List.push_toArray, List.append_toArray, List.nil_append, List.cons_append]
  refine wpIn_wide.2 ?_
  go_upto_region 2 with (fail)
  rw [hwA.out, HWC.out, HWD.out, HWE.out]
  simp only [HB.out, N1.out, N2.out, N3.out]
  go_region_held3 (fun w' => w'.cell? ⟨B, 0, none⟩ = some (.slice (some ⟨sb, so, none⟩) (k + 1) sc) ∧ w'.cell? ⟨B, 1, none⟩ = some (.slice (some ⟨b, off, none⟩) cl cc) ∧ w'.cell? ⟨sb, so + k, none⟩ = some (.int .i64 side))
    (first | exact u0 | exact u1 | exact u4 | go_keep)
    ((first
      | (go_at_call 46; refine (CHK.out _).mono ?_; rintro e w4 ⟨rfl, hw4⟩; have q4 := CB.out w4 hw4; have b4 := Lib.hid q4.2.2.2; have u4 := SK.out w4 b4.out; have c4 := Lib.hid q4; clear hw4 q4)))
  rename_i hHeld
  obtain ⟨J4, CC, hz4, hb4⟩ := c4.out
  clear hHeld u0 u1 u4 SK CHK CB x1 x2 x3 x4 x5 b4 c4 HWC HWD HWE hwA t0 Y hb4
  simp only [N4.out, Nat.add_assoc, Nat.reduceAdd]
  go_wp2_with fail
  refine (wpIn_wide (n := 1)).1 ?_
  obtain ⟨i0, hi, hz0, hz1, hz2⟩ := info_parts sInfo
  refine range_law (gf := 54) (lb := #[.pointer (some ⟨B + 4, 0, none⟩), .pointer (some ⟨B + 5, 0, none⟩)]) rfl (enters_of Try.func54 (by kernel_rfl) rfl) (chunk_iter (B + 4) (B + 5) b off cc side R cl hside1 HCL.out hcc hccm (by omega)) (fun _ _ => rfl) ?hR
    (fun _ _ _ _ _ _ _ _ _ _ _ => trivial) (fun W' hb' => ⟨cell_later hb' CC.1, cell_later hb' CC.2⟩)
    (fun pre O W => ∃ v, WinJ w #[.slice (some ⟨sb, so, none⟩) (k + 1) sc, .slice (some ⟨b, off, none⟩) cl cc] wn s b off wn v (winsL side s n pre.length) O W) (fun _ _ _ _ => False) (fun pre O W O' W' ⟨v, h⟩ hs => ⟨v, h.stable hs⟩) (fun _ _ _ _ _ _ h _ => h) ⟨_, J4⟩ ?round ?done ?stop
  case hR =>
    rintro k (rfl | rfl) <;> omega
  case stop =>
    intro D O c pre W' _ _ _ h
    exact h.elim
  case done =>
    rintro D O W' hD hO hdef ⟨v, hJ⟩
    rw [upL_length] at hJ
    have c3 : W'.cell? ⟨B + 3, 0, none⟩ = some v := by rw [← HB.out]; exact hJ.list.cell 0
    have gr := hJ.row
    rw [winsL_length] at gr
    have fin : (W'.putObj D (.deferred none)).ownsRow w.heap.size 32 1 v (R * n) ((winsL side s n R).map (winV b off wn)) ∧ Below w.heap.size w (W'.putObj D (.deferred none)) :=
      ⟨Joins.ownsRow_le (row_it gr hJ.mine (ItStep.putObj W' D (.deferred none) hO)).1 (by omega), below_putObj hJ.base.1 D _ (by have := HB.out; omega)⟩
    have P : ∃ A c, v = .slice A (R * n) c := by
      rcases Joins.ownsRow_forms gr with ⟨e1, e2⟩ | ⟨g, c, e1⟩
      · exact ⟨none, 0, by rw [e1, e2]⟩
      · exact ⟨_, _, e1⟩
    obtain ⟨A, c, rfl⟩ := P
    have F := Lib.hid fin
    have HD := Lib.hid hdef
    clear fin hdef gr hJ
    go_wp2_with fail
    exact leaves_mark HD.out ⟨_, results_tmp (t := 6) rfl _ _ _, A, c, rfl, F.out.1, F.out.2⟩
  case round =>
    rintro l pre x y rest O Wa W2 hxs ⟨v, hJ⟩ _
    obtain ⟨hx, hpl⟩ := upL_at R 0 pre x rest hxs
    rw [Nat.zero_add] at hx
    obtain ⟨r, hr⟩ : ∃ r, pre.length = r := ⟨_, rfl⟩
    have HR := Lib.hid hr
    have HX := Lib.hid hx
    rw [hr] at hpl hJ hx
    subst hx
    obtain ⟨q, hq⟩ : ∃ q, off + x * side = q := ⟨_, rfl⟩
    have EV : Hid (∀ p, winV b off wn (x * side + p, side - p) = .slice (some ⟨b, q + p, none⟩) wn (side - p)) := Lib.hid (fun p => by unfold winV; rw [← hq, Nat.add_assoc])
    have ep : pieceV b off side x = .slice (some ⟨b, q, none⟩) side side := by unfold pieceV; rw [hq]
    simp only [ep]
    have hN : x * n + n ≤ R * n := by have := Nat.mul_le_mul_right n hpl; rw [Nat.succ_mul] at this; exact this
    have J0 : Hid (WinJ w #[.slice (some ⟨sb, so, none⟩) (k + 1) sc, .slice (some ⟨b, off, none⟩) cl cc] wn s b off wn v (winsL side s n x ++ winsR side s x 0) O W2) := Lib.hid (by rw [winsR_zero, List.append_nil]; exact hJ)
    have cw : W2.cell? ⟨B + 1, 0, none⟩ = some (.int .i64 wn) := by rw [← HB.out]; exact hJ.width.cell 0
    clear hJ hxs ep hq hr
    gi_wp2
    refine ⟨trivial, ?_⟩
    gi_wp2_with fail
    gi_loopw [9] (fun i wr => ∃ (j p : Nat) (v : Value), j ≤ n ∧ i = .int .i64 p ∧ p ≤ side + s ∧ Hid (p = j * s) ∧ Hid (WinJ w #[.slice (some ⟨sb, so, none⟩) (k + 1) sc, .slice (some ⟨b, off, none⟩) cl cc] wn s b off wn v (winsL side s n x ++ winsR side s x j) O wr) ∧ Hid (RdStep (fun k => ChunkR (B + 4) (B + 5) k ∨ O k) W2 wr)) (fun i _ => side + s - (intOf i).toNat)
    case atStart => exact ⟨0, 0, v, Nat.zero_le _, rfl, by omega, Lib.hid (by simp), J0, Lib.hid (RdStep.refl _ _)⟩
    case round =>
      obtain ⟨j, p, v, hj, rfl, hps, hpj, hJ, hrd⟩ := hrel
      have c1 : wr.cell? ⟨B + 1, 0, none⟩ = some (.int .i64 wn) := by rw [← HB.out]; exact hJ.out.width.cell 0
      have c3 : wr.cell? ⟨B + 3, 0, none⟩ = some v := by rw [← HB.out]; exact hJ.out.list.cell 0
      by_cases hlt : p + wn ≤ side
      · have hlt' : (p : Int) + (wn : Int) ≤ (side : Int) := by omega
        have hjn : j < n := HP.out.win.2 (by rw [← hpj.out]; exact hlt)
        have ews : winsL side s n x ++ winsR side s x (j + 1) = (winsL side s n x ++ winsR side s x j) ++ [(x * side + p, side - p)] := by rw [winsR_succ, List.append_assoc, ← hpj.out]
        have hm : (winsL side s n x ++ winsR side s x j).length = x * n + j := by rw [List.length_append, winsL_length, winsR_length]
        have EWS := Lib.hid ews
        obtain ⟨ws, hws⟩ : ∃ ws, winsL side s n x ++ winsR side s x j = ws := ⟨_, rfl⟩
        rw [hws] at hJ EWS hm
        obtain ⟨m, hmE⟩ : ∃ m, x * n + j = m := ⟨_, rfl⟩
        rw [hmE] at hm
        have hm6 : m < 65536 := by omega
        have row0 := hJ.out.row
        have SN := Lib.hid (fun v' W6 h1 h2 h3 => hJ.out.drew.snoc (v' := v') (W6 := W6) (p := (x * side + p, side - p)) (box := .cells #[.slice (some ⟨b, q + p, none⟩) wn (side - p)] 32) h1 h2 h3)
        rw [EV.out p, hm] at SN
        rw [hm] at row0
        obtain ⟨V5, hV5⟩ : ∃ V5, (wr.alloc (.cells #[.slice (some ⟨b, q + p, none⟩) wn (side - p)] 32)).drew = V5 := ⟨_, rfl⟩
        have b5 : Below wr.heap.size wr V5 := by rw [← hV5]; exact ((Below.refl _ _).alloc (Nat.le_refl _) _).drew
        have z5 : V5.heap.size = wr.heap.size + 1 := by rw [← hV5]; simp
        have n5 : V5.cell? ⟨wr.heap.size, 0, none⟩ = some (.slice (some ⟨b, q + p, none⟩) wn (side - p)) := by rw [← hV5]; show (wr.alloc _).cell? _ = _; rw [World.cell?_alloc_at _ _ _ _ rfl]; rfl
        have r5 := row_kept row0 b5
        have c15 : V5.cell? ⟨B + 1, 0, none⟩ = some (.int .i64 wn) := cell_later b5 c1
        have c35 : V5.cell? ⟨B + 3, 0, none⟩ = some v := cell_later b5 c3
        have SN2 : Hid (∀ v' W6, W6.ownsRow (w.heap.size + 6) 32 1 v' (m + 1) (ws.map (winV b off wn) ++ [.slice (some ⟨b, q + p, none⟩) wn (side - p)]) → V5.grownBy W6 v.ownBlock → (v'.ownBlock = v.ownBlock ∨ v'.ownBlock = some V5.heap.size) →
            (WinJ w #[.slice (some ⟨sb, so, none⟩) (k + 1) sc, .slice (some ⟨b, off, none⟩) cl cc] wn s b off wn v' (ws ++ [(x * side + p, side - p)]) O (W6.setCell ⟨B + 3, 0, none⟩ v') ∧ RdStep (fun k => ChunkR (B + 4) (B + 5) k ∨ O k) W2 (W6.setCell ⟨B + 3, 0, none⟩ v')) ∧ (W6.cell? ⟨B + 3, 0, none⟩ = some v ∧ W6.frozen? ⟨B + 3, 0, none⟩ = false ∧ W6.cell? ⟨B + 1, 0, none⟩ = some (.int .i64 wn)) ∧ (W6.setCell ⟨B + 3, 0, none⟩ v').cell? ⟨B + 1, 0, none⟩ = some (.int .i64 wn)) := Lib.hid (by
          intro v' W6 h1 h2 h3
          rw [← hV5] at h2 h3
          have hh := SN.out v' W6 h1 h2 h3
          rw [HB.out] at hh
          have hrow : ∀ q, v.ownBlock = some q → B + 6 ≤ q := fun q hq => by have := (row0.lt q hq).1; rw [HB.out] at this; exact this
          have hzw := hJ.out.size
          rw [HB.out] at hzw
          have hw2 : Has O W6 (B + 3) #[v] 61 := by
            have := hJ.out.list
            rw [HB.out] at this
            refine ⟨this.1, ?_⟩
            rw [h2.block (B + 3) (by simp; omega) (fun e => by have := hrow _ e.symm; omega)]
            exact (Below.heap_alloc _ _ _ this.lt).trans this.2
          have hw1 : Has O W6 (B + 1) #[.int .i64 wn] 3 := by
            have := hJ.out.width
            rw [HB.out] at this
            refine ⟨this.1, ?_⟩
            rw [h2.block (B + 1) (by simp; omega) (fun e => by have := hrow _ e.symm; omega)]
            exact (Below.heap_alloc _ _ _ this.lt).trans this.2
          refine ⟨⟨hh.1, (hrd.out.trans (RdStep.drew _ wr)).trans hh.2⟩, ⟨hw2.cell 0, hw2.frozen 0, hw1.cell 0⟩, ?_⟩
          have := hh.1.width
          rw [HB.out] at this
          exact this.cell 0)
        have HJ := hJ
        have HV5 := Lib.hid hV5
        have B5 := Lib.hid b5
        have HWS := Lib.hid hws
        have bs5 : w.heap.size + 6 ≤ V5.heap.size := by have := hJ.out.size; omega
        have hml : m + 1 ≤ maxLen := by unfold maxLen; omega
        have hmb : (m + 1) * 24 ≤ 140737488355328 := by omega
        have R5 := Lib.hid r5
        clear hJ ews hm hws row0 SN hV5 b5 z5 r5 hmE cw J0
        have y1 : (0 : Int) ≤ (p : Int) := by omega
        have y2 : (p : Int) ≤ (p : Int) + (wn : Int) := by omega
        have y3 : IntKind.i64.wrap ((p : Int) + (wn : Int)) = ((p + wn : Nat) : Int) := by rw [← Int.natCast_add]; exact IntWalk.i64_in _ (by omega)
        have y4 : IntKind.i64.wrap ((p : Int) + (wn : Int)) = (p : Int) + (wn : Int) := IntWalk.i64_in _ (by omega)
        have y5 : p + wn - p = wn := by omega
        have y6 : ((p : Int) + (wn : Int)).toNat = p + wn := by omega
        have y7 : p ≤ p + wn := by omega
        have y8 : ¬ side = p := by have := HP.out.w1; omega
        gi_wp2_with fail
        refine round_cutQ (ι := Value × World) (fun xx => WinJ w #[.slice (some ⟨sb, so, none⟩) (k + 1) sc, .slice (some ⟨b, off, none⟩) cl cc] wn s b off wn xx.1 (ws ++ [(x * side + p, side - p)]) O xx.2 ∧ RdStep (fun k => ChunkR (B + 4) (B + 5) k ∨ O k) W2 xx.2) (fun xx a => (((((((((a.put (some 31) (v)).put (some 32) (.slice (some ⟨b, q, none⟩) side side)).put (some 33) (.int .i64 p)).put (some 34) (.int .i64 p)).put (some 35) (.int .i64 wn)).put (some 36) (.int .i64 ((p : Int) + (wn : Int)))).put (some 37) (.slice (some ⟨b, q + p, none⟩) wn (side - p))).put (some 38) (.slice (some ⟨wr.heap.size, 0, none⟩) 1 1)).put (some 39) (xx.1))) (fun xx => xx.2) (fun w' => w'.cell? ⟨B + 1, 0, none⟩ = some (.int .i64 wn)) (by kernel_rfl) (by kernel_rfl) c1 (fun hHeld => ?_) ?_
        · refine held_take 1 (.slice (some ⟨b, q, none⟩) side side) rfl (by kernel_rfl) (by kernel_rfl) (by kernel_rfl) (fun _ _ _ h => by obtain ⟨_, _, h, _⟩ := h; cases h) (by rfl) (by intro w' hS; go_simp) (by assumption) ?_
          try simp only [Act.put, List.setIfInBounds_toArray, List.set_cons_zero, List.set_cons_succ]
          refine held_take 2 (.int .i64 p) rfl (by kernel_rfl) (by kernel_rfl) (by kernel_rfl) (fun _ _ _ h => by obtain ⟨_, _, h, _⟩ := h; cases h) (by rfl) (by intro w' hS; go_simp) (by assumption) ?_
          try simp only [Act.put, List.setIfInBounds_toArray, List.set_cons_zero, List.set_cons_succ]
          refine held_take 3 (.int .i64 p) rfl (by kernel_rfl) (by kernel_rfl) (by kernel_rfl) (fun _ _ _ h => by obtain ⟨_, _, h, _⟩ := h; cases h) (by rfl) (by intro w' hS; go_simp) (by assumption) ?_
          try simp only [Act.put, List.setIfInBounds_toArray, List.set_cons_zero, List.set_cons_succ]
          refine held_take 4 (.int .i64 wn) rfl (by kernel_rfl) (by kernel_rfl) (by kernel_rfl) (fun _ _ _ h => by obtain ⟨_, _, h, _⟩ := h; cases h) (by rfl) (by intro w' hS; go_simp) (by assumption) ?_
          try simp only [Act.put, List.setIfInBounds_toArray, List.set_cons_zero, List.set_cons_succ]
          refine held_take 5 (.int .i64 ((p : Int) + (wn : Int))) rfl (by kernel_rfl) (by kernel_rfl) (by kernel_rfl) (fun _ _ _ h => by obtain ⟨_, _, h, _⟩ := h; cases h) (by rfl) (by intro w' hS; go_simp) (by assumption) ?_
          try simp only [Act.put, List.setIfInBounds_toArray, List.set_cons_zero, List.set_cons_succ]
          refine held_take 6 (.slice (some ⟨b, q + p, none⟩) wn (side - p)) rfl (by kernel_rfl) (by kernel_rfl) (by kernel_rfl) (fun _ _ _ h => by obtain ⟨_, _, h, _⟩ := h; cases h) (by rfl) (by intro w' hS; go_simp) (by assumption) ?_
          try simp only [Act.put, List.setIfInBounds_toArray, List.set_cons_zero, List.set_cons_succ]
          refine held_two 0 7 (by kernel_rfl) rfl rfl (by rfl) (by rfl) (fun K hK => ?_) (fun K hK => ?_)
          · go_simp
            refine hK.out _ _ hHeld (fun hHeld => ?_)
            try simp only [Act.put, List.setIfInBounds_toArray, List.set_cons_zero, List.set_cons_succ]
            refine held_call 7 (by kernel_rfl) rfl (by rfl) (fun K hK => ?_)
            go_simp
            rw [HV5.out]
            refine hK.out _ _ c15 (fun hHeld => ?_)
            try simp only [Act.put, List.setIfInBounds_toArray, List.set_cons_zero, List.set_cons_succ]
            refine held_call 8 (by kernel_rfl) rfl (by rfl) (fun K hK => ?_)
            refine wp_append_cell _ _ 61 32 rfl Try.underlying61 i0 _ 24 hi hz0 hz1 hz2 rfl (w.heap.size + 6) v m (ws.map (winV b off wn)) rfl R5.out wr.heap.size 1 _ rfl n5 rfl hml hmb bs5 ?_
            intro v6 W6 o6 g6 h6
            obtain ⟨F6, ⟨k1, k2, k3⟩, k4⟩ := SN2.out v6 W6 o6 g6 h6
            obtain ⟨g', c', rfl⟩ := ownsRow_succ o6
            have G6 := Lib.hid F6
            clear o6 g6 h6 F6
            refine hK.out _ _ k3 (fun hHeld => ?_)
            try simp only [Act.put, List.setIfInBounds_toArray, List.set_cons_zero, List.set_cons_succ]
            refine held_call 9 (by kernel_rfl) rfl (by rfl) (fun K hK => ?_)
            go_simp
            refine hK.out _ _ k4 (fun hHeld => ?_)
            try simp only [Act.put, List.setIfInBounds_toArray, List.set_cons_zero, List.set_cons_succ]
            refine wpAnyH_done (by kernel_rfl) ?_ _
            refine ⟨(.slice (some ⟨g', 0, none⟩) (m + 1) c', W6.setCell ⟨B + 3, 0, none⟩ (.slice (some ⟨g', 0, none⟩) (m + 1) c')), G6.out, rfl, ?_, rfl⟩
            simp only [Act.put, List.setIfInBounds_toArray, List.set_cons_zero, List.set_cons_succ]
          · go_simp
            rw [HV5.out]
            refine hK.out _ _ c15 (fun hHeld => ?_)
            try simp only [Act.put, List.setIfInBounds_toArray, List.set_cons_zero, List.set_cons_succ]
            refine held_call 0 (by kernel_rfl) rfl (by rfl) (fun K hK => ?_)
            go_simp
            refine hK.out _ _ hHeld (fun hHeld => ?_)
            try simp only [Act.put, List.setIfInBounds_toArray, List.set_cons_zero, List.set_cons_succ]
            refine held_call 8 (by kernel_rfl) rfl (by rfl) (fun K hK => ?_)
            refine wp_append_cell _ _ 61 32 rfl Try.underlying61 i0 _ 24 hi hz0 hz1 hz2 rfl (w.heap.size + 6) v m (ws.map (winV b off wn)) rfl R5.out wr.heap.size 1 _ rfl n5 rfl hml hmb bs5 ?_
            intro v6 W6 o6 g6 h6
            obtain ⟨F6, ⟨k1, k2, k3⟩, k4⟩ := SN2.out v6 W6 o6 g6 h6
            obtain ⟨g', c', rfl⟩ := ownsRow_succ o6
            have G6 := Lib.hid F6
            clear o6 g6 h6 F6
            refine hK.out _ _ k3 (fun hHeld => ?_)
            try simp only [Act.put, List.setIfInBounds_toArray, List.set_cons_zero, List.set_cons_succ]
            refine held_call 9 (by kernel_rfl) rfl (by rfl) (fun K hK => ?_)
            go_simp
            refine hK.out _ _ k4 (fun hHeld => ?_)
            try simp only [Act.put, List.setIfInBounds_toArray, List.set_cons_zero, List.set_cons_succ]
            refine wpAnyH_done (by kernel_rfl) ?_ _
            refine ⟨(.slice (some ⟨g', 0, none⟩) (m + 1) c', W6.setCell ⟨B + 3, 0, none⟩ (.slice (some ⟨g', 0, none⟩) (m + 1) c')), G6.out, rfl, ?_, rfl⟩
            simp only [Act.put, List.setIfInBounds_toArray, List.set_cons_zero, List.set_cons_succ]
        rintro ⟨v6, W7⟩ ⟨J7, R7⟩
        rw [← EWS.out] at J7
        have K7 := Lib.hid J7
        have L7 := Lib.hid R7
        have c2 : W7.cell? ⟨B + 2, 0, none⟩ = some (.int .i64 s) := by rw [← HB.out]; exact J7.step.cell 0
        have M1 : Hid (p + s = (j + 1) * s) := Lib.hid (by rw [hpj.out, Nat.add_mul, Nat.one_mul])
        simp only [Act.put, List.setIfInBounds_toArray, List.set_cons_zero, List.set_cons_succ]
        clear J7 R7 SN2 HJ HV5 B5 R5 c15 c35 n5 y2 y3 y4 y5 y6 y7
        gi_wp2_with fail
        go_roundw
        case rel => exact ⟨j + 1, p + s, v6, by omega, by go_num, by omega, M1, K7, L7⟩
        case measure => (simp [intOf]; try omega)
      · have hlt' : ¬ (p : Int) + (wn : Int) ≤ (side : Int) := by omega
        have hjn : j = n := by
          have := mt (HP.out.win (i := j)).1 (by rw [← hpj.out]; exact hlt)
          omega
        have F : Hid (RdStep (fun k => ChunkR (B + 4) (B + 5) k ∨ O k) W2 wr ∧ ∃ v, WinJ w #[.slice (some ⟨sb, so, none⟩) (k + 1) sc, .slice (some ⟨b, off, none⟩) cl cc] wn s b off wn v (winsL side s n (pre ++ [x]).length) O wr) := Lib.hid ⟨hrd.out, v, by
          have := hJ.out
          rw [hjn, ← winsL_succ] at this
          rw [List.length_append, HR.out]
          exact this⟩
        clear hJ hrd hpj J0 c3 cw
        gi_wp2_with fail
        exact F.out
end Go.Proofs.Ytdimpgojamhakaa

/-
  A part of a slice of integers, where it lies.
-/
namespace Go.Proofs.Ytdimpgojamhakaa
set_option linter.unusedVariables false
set_option linter.unusedSimpArgs false

theorem IntsAt.win {w : World} {b off len : Nat} {zs : List Int} (h : IntsAt w (some ⟨b, off, none⟩) len zs) (a k : Nat) (hk : a + k ≤ len) : IntsAt w (some ⟨b, off + a, none⟩) k ((zs.drop a).take k) := by
  obtain ⟨h1, h2, h3, h4⟩ := h
  refine ⟨by simp [h1]; omega, by omega, fun z hz => h3 z (List.mem_of_mem_drop (List.mem_of_mem_take hz)), ?_⟩
  by_cases e : k = 0
  · exact .inl e
  refine .inr ⟨b, off + a, rfl, fun j hj => ?_⟩
  rcases h4 with h4 | ⟨b', o', he, hc⟩
  · omega
  · cases he
    have := hc (a + j) (by omega)
    rw [Nat.add_assoc, this]
    congr 2
    simp only [List.getD_eq_getElem?_getD, List.getElem?_take, List.getElem?_drop]
    rw [if_pos hj]
end Go.Proofs.Ytdimpgojamhakaa

/-
  Contracts of package tensor: Scale, Add, Dot.
-/
namespace Go.Proofs.Ytdimpgojamhakaa
open Go.RowKit
set_option linter.unusedVariables false
set_option linter.unusedSimpArgs false

end Go.Proofs.Ytdimpgojamhakaa
/-
  Contracts of package tensor: Add.
-/
namespace Go.Proofs.Ytdimpgojamhakaa
open Go.RowKit
set_option linter.unusedVariables false
set_option linter.unusedSimpArgs false

end Go.Proofs.Ytdimpgojamhakaa
/-
  Contracts of package tensor: Dot; of the statements' file: small, right; the fixed answer of the statements of layer 4.
-/
namespace Go.Proofs.Ytdimpgojamhakaa
open Go.RowKit
set_option linter.unusedVariables false
set_option linter.unusedSimpArgs false

theorem rightT_pos {ss : List Int} {n : Nat} (h : rightT ss n = true) : 0 < n := by
  obtain ⟨h1, h2⟩ := rightT_parts h
  have := prodI_pos (rightS_parts h1).2.2.1
  omega
theorem alikeT_parts {s1 s2 : List Int} {n1 n2 : Nat} (h : alikeT s1 n1 s2 n2 = true) : rightT s1 n1 = true ∧ rightT s2 n2 = true ∧ s1 = s2 ∧ n1 = n2 := by
  simp only [alikeT, Bool.and_eq_true] at h
  obtain ⟨⟨h1, h2⟩, h3⟩ := h
  have e := sameL_eq h3
  refine ⟨h1, h2, e, ?_⟩
  have x1 := (rightT_parts h1).2
  have x2 := (rightT_parts h2).2
  rw [← e] at x2
  omega

/-- The statements look at tensors of at most 50 sides and 600 cells. -/
def smallT (sl cl : Nat) : Bool := decide (sl ≤ 50) && decide (cl ≤ 600)

end Go.Proofs.Ytdimpgojamhakaa
/-
  The contract of package pool's Go.
-/
namespace Go.Proofs.Ytdimpgojamhakaa
open Go.RowKit
set_option linter.unusedVariables false
set_option linter.unusedSimpArgs false

/-- What is to be appended lies in a new block; of any type of 64-bit numbers. -/
structure SnocT (t : TypeId) (B : Nat) (wr : World) (x : Int) (L0 : List Value) (v : Value) (len : Nat) : Prop where
  row : (wr.alloc (.cells #[.int .i64 x] t)).ownsRow B t 1 v len L0
  new : ∀ j u, [Value.int .i64 x][j]? = some u → (wr.alloc (.cells #[.int .i64 x] t)).cell? ((⟨wr.heap.size, 0, none⟩ : Addr).add j) = some u
  one : ∀ u ∈ [Value.int .i64 x], u.oneCell' = true
  room : len + 1 ≤ maxLen
  bytes : (len + 1) * 8 ≤ 140737488355328
  size : B ≤ (wr.alloc (.cells #[.int .i64 x] t)).heap.size
theorem snocT_of {t : TypeId} {B : Nat} {wr : World} {L0 : List Value} {v : Value} {len : Nat} (x : Int) (h : wr.ownsRow B t 1 v len L0) (hb : B ≤ wr.heap.size) (hl : len ≤ 65536) : SnocT t B wr x L0 v len :=
  ⟨h.alloc _, box_cell wr x _, (by intro u hu; simp at hu; subst hu; rfl), by unfold maxLen; omega, by omega, by simp; omega⟩
theorem snocT_below {t : TypeId} {B : Nat} {w0 wr w5 : World} {L0 : List Value} {v : Value} {len : Nat} {x : Int} (h : wr.ownsRow B t 1 v len L0) (hb : Below B w0 wr) (hB : B ≤ wr.heap.size) (hg : (wr.alloc (.cells #[.int .i64 x] t)).grownBy w5 v.ownBlock) : Below B w0 w5 :=
  (hb.alloc hB (.cells #[.int .i64 x] t)).grown hg (by simp; omega) (fun q' hq' => (h.lt q' hq').1)

set_option maxRecDepth 100000 in
set_option maxHeartbeats 2000000 in
theorem pgo_no (kind : Int) (x : TV) (wd st : Int) (w : World) (h : x.At w) (hE : kindE kind x.ss x.cl wd st ≠ 0) :
    Calls Try.prog 14 #[.int .i64 kind, .agg #[.slice x.sa x.sl x.sc, .slice x.ca x.cl x.cc], .int .i64 wd, .int .i64 st] w (NilT w (kindE kind x.ss x.cl wd st)) := by
  obtain ⟨wA, hwA, J1, z1, n1⟩ := grid_box w (.slice x.sa x.sl x.sc) (.slice x.ca x.cl x.cc)
  obtain ⟨wB, hwB, J3, z3, n3⟩ := grid_box wA (.slice none 0 0) (.slice none 0 0)
  rw [n1.out] at J3
  have z := Lib.hid (z1.out.trans (z3.out.mono z1.out.size))
  have J1' := Lib.hid (J1.out.kept z3.out)
  clear J1 z1 z3 n1 n3
  have O := pout_any kind x wd st wB (h.kept z.out)
  obtain ⟨j0, j1, -, -⟩ := J1'.out.see
  have O1 := Lib.hid (O.mono (fun e w' hh => hh.2 hE))
  obtain ⟨u, hu⟩ : ∃ u, kindE kind x.ss x.cl wd st = u := ⟨_, rfl⟩
  rw [hu] at O1 hE ⊢
  have hE' : ¬ u = 0 := hE
  clear O h hE hu
  go_enter Try.func14, Try.ntmps14
  go_upto_region 1 with (fail)
  rw [hwA.out, hwB.out]
  go_wp2_with fail
  refine O1.out.mono ?_
  rintro e w1 ⟨rfl, hb⟩
  have J3' := J3.out.kept hb
  obtain ⟨e0, e1, f0, f1⟩ := J3'.see
  obtain ⟨h0, h1, -, -⟩ := (J3'.set (.slice none 0 0) (.slice none 0 0)).see
  have P := Lib.hid (((z.out.trans (hb.mono z.out.size)).setCell (p := ⟨w.heap.size + 1, 0, none⟩) (by show w.heap.size ≤ w.heap.size + 1; omega) (.slice none 0 0)).setCell (p := ⟨w.heap.size + 1, 1, none⟩) (by show w.heap.size ≤ w.heap.size + 1; omega) (.slice none 0 0))
  clear hb J3'
  go_wp2_with fail
  refine bodyPost_ret (v := .tuple #[.agg #[.slice none 0 0, .slice none 0 0], .int .i64 u]) ?_ rfl ⟨rfl, P.out⟩
  simp [results, Try.results14, go_sem, h0, h1]

theorem winsL_cell {side s n R k : Nat} (hk : k < R * n) (f : Nat × Nat → Value) : ((winsL side s n R).map f)[k]? = some (f ((winsL side s n R).getD k (0, 0))) := by
  have hl : k < (winsL side s n R).length := by rw [winsL_length]; exact hk
  rw [List.getElem?_map, List.getElem?_eq_getElem hl]
  simp [List.getD, List.getElem?_eq_getElem hl]
theorem winsL_at {xs : List Int} {wd st : Int} {side w s n R k : Nat} (h : PoolN xs wd st side w s n R) (hk : k < R * n) : ((winsL side s n R).getD k (0, 0)).1 + w ≤ R * side ∧ w ≤ ((winsL side s n R).getD k (0, 0)).2 := by
  have hl : k < (winsL side s n R).length := by rw [winsL_length]; exact hk
  have := winsL_in h (p := (winsL side s n R).getD k (0, 0)) (by simp [List.getD, List.getElem?_eq_getElem hl])
  exact ⟨this.1, this.2.1⟩
theorem goL_length (kind : Int) (cs : List Int) (w side s n R : Nat) : (goL kind cs w (winsL side s n R)).length = R * n := by simp [goL, winsL_length]
theorem goL_get {kind : Int} {cs : List Int} {w side s n R k : Nat} (hk : k < R * n) : (goL kind cs w (winsL side s n R)).getD k 0 = poolA kind cs w ((winsL side s n R).getD k (0, 0)).1 := by
  have hl : k < (winsL side s n R).length := by rw [winsL_length]; exact hk
  simp [goL, List.getD, List.getElem?_eq_getElem hl]
theorem take_next {l : List Int} {k : Nat} (h : k < l.length) : l.take (k + 1) = l.take k ++ [l.getD k 0] := by
  rw [List.take_add_one]
  simp [List.getD, List.getElem?_eq_getElem h]

set_option maxRecDepth 100000 in
set_option maxHeartbeats 4000000 in
theorem pgo_ok (kind : Int) (x : TV) (wd st : Int) (side wn s n R : Nat) (w : World) (h : x.At w) (hcap : x.Cap) (hE : kindE kind x.ss x.cl wd st = 0) (hp : PoolN x.ss wd st side wn s n R) :
    Calls Try.prog 14 #[.int .i64 kind, .agg #[.slice x.sa x.sl x.sc, .slice x.ca x.cl x.cc], .int .i64 wd, .int .i64 st] w (OkT w x.ss.length (psS x.ss wd st) (R * n) (goL kind x.cs wn (winsL side s n R))) := by
  obtain ⟨-, hr, -⟩ := kindE_parts hE
  obtain ⟨hr1, hr2⟩ := rightT_parts hr
  obtain ⟨p1, p2, -, -⟩ := rightS_parts hr1
  have hcl : x.cl = R * side := by have := hp.cells; omega
  have hcl0 : 0 < x.cl := rightT_pos hr
  obtain ⟨wA, hwA, J1, z1, n1⟩ := grid_box w (.slice x.sa x.sl x.sc) (.slice x.ca x.cl x.cc)
  obtain ⟨wB, hwB, J3, z3, n3⟩ := grid_box wA (.slice none 0 0) (.slice none 0 0)
  rw [n1.out] at J3
  have z := Lib.hid (z1.out.trans (z3.out.mono z1.out.size))
  have J1' := Lib.hid (J1.out.kept z3.out)
  have nB : Hid (wB.heap.size = w.heap.size + 2) := Lib.hid (by rw [n3.out, n1.out])
  clear J1 z1 z3 n1 n3
  have O := pout_any kind x wd st wB (h.kept z.out)
  obtain ⟨j0, j1, -, -⟩ := J1'.out.see
  have O1 := Lib.hid (O.mono (fun e w' hh => hh.1 hE))
  obtain ⟨b, off, hca, -⟩ := ints_cell h.2.1 hcl0
  have WN := fun w1 (hb : Below wB.heap.size wB w1) => windows_any x.sa x.sl x.sc x.ss b off x.cl x.cc x.cs wd st side wn s n R w1 ((h.kept z.out).1.kept hb) hp p1 p2 hcl hcap.1 hcap.2
  have hM6 : R * n ≤ 65536 := Nat.le_trans hp.outle hp.most
  have hM0 : 0 < R * n := Nat.mul_pos hp.R1 hp.n1
  have HW := Lib.hid (fun k (hk : k < R * n) => winsL_at hp hk)
  have HC := Lib.hid (fun k (hk : k < R * n) (f : Nat × Nat → Value) => winsL_cell (side := side) (s := s) hk f)
  have HG := Lib.hid (fun k (hk : k < R * n) => goL_get (kind := kind) (cs := x.cs) (w := wn) (side := side) (s := s) hk)
  have HL := goL_length kind x.cs wn side s n R
  obtain ⟨L, hL⟩ : ∃ L, goL kind x.cs wn (winsL side s n R) = L := ⟨_, rfl⟩
  obtain ⟨M, hM⟩ : ∃ M, R * n = M := ⟨_, rfl⟩
  obtain ⟨wins, hwins⟩ : ∃ l, winsL side s n R = l := ⟨_, rfl⟩
  simp only [hL] at HG HL ⊢
  simp only [hM, hwins] at WN HW HC HG HL hM6 hM0 ⊢
  have WN1 := Lib.hid WN
  have HL1 := Lib.hid HL
  have hw1 : 1 ≤ wn := hp.w1
  have hw2 : wn ≤ 1024 := hp.w2
  have HCL := Lib.hid hcl
  rw [hca] at j1 J1' hwA O1
  have HIN : Hid (IntsAt wB (some ⟨b, off, none⟩) x.cl x.cs) := Lib.hid (by rw [← hca]; exact (h.kept z.out).2.1)
  obtain ⟨os, hos⟩ : ∃ l, psS x.ss wd st = l := ⟨_, rfl⟩
  obtain ⟨nn, hn⟩ : ∃ l, x.ss.length = l := ⟨_, rfl⟩
  rw [hos] at O1 ⊢
  rw [hn] at O1 p1 p2 ⊢
  obtain ⟨i0, hi, hz0, hz1, hz2⟩ := info_parts fInfo
  rw [hca]
  clear O h hE hp hr hr1 hr2 hcl hcap WN HL hos hn hL hM hwins hca
  go_enter Try.func14, Try.ntmps14
  go_upto_region 1 with (fail)
  rw [hwA.out, hwB.out]
  go_wp2_with fail
  refine O1.out.mono ?_
  rintro e w1 ⟨A, c, rfl, ho, hb1⟩
  obtain ⟨ga, ca', hv⟩ := Joins.ownsRow_form ho (by omega)
  simp only [Value.slice.injEq] at hv
  obtain ⟨rfl, -, rfl⟩ := hv
  obtain ⟨i0', i1', -, -⟩ := (J1'.out.kept hb1).see
  have WN2 := Lib.hid (WN1.out w1 hb1)
  have HO := Lib.hid ho
  have HB1 := Lib.hid hb1
  clear ho hb1 O1 WN1
  go_wp2_with fail
  refine WN2.out.mono ?_
  rintro e w2 ⟨A2, c2, rfl, ho2, hb2⟩
  obtain ⟨g2, c2', hv⟩ := Joins.ownsRow_form ho2 hM0
  simp only [Value.slice.injEq] at hv
  obtain ⟨rfl, -, rfl⟩ := hv
  have HO2 := Lib.hid ho2
  have B2 := Lib.hid (HB1.out.trans (hb2.mono HB1.out.size))
  have HOS := Lib.hid (row_kept HO.out hb2)
  have hga : ga < w2.heap.size := (HOS.out.lt ga rfl).2
  have hgB : wB.heap.size ≤ ga := (HOS.out.lt ga rfl).1
  clear ho2 hb2 HO WN2
  go_wp2_with fail
  go_loopw [12, 32] (fun t i wr => ∃ k : Nat, k ≤ M ∧ i = .int .i64 k ∧ Hid (wr.ownsRow w2.heap.size 49 1 t k ((L.take k).map (Value.int .i64))) ∧ Hid (Below w2.heap.size w2 wr)) (fun _ i _ => M - (intOf i).toNat)
  case atStart => exact ⟨0, Nat.zero_le _, rfl, Lib.hid (by rw [List.take_zero]; exact World.ownsRow_nil _ _ _ _), Lib.hid (Below.refl _ _)⟩
  case round =>
    obtain ⟨k, hk, rfl, hrow, hbr⟩ := hrel
    by_cases hlt : k < M
    · have hck := (row_kept HO2.out hbr.out).cellAt k (by omega)
      rw [HC.out k hlt] at hck
      have hwk := HW.out k hlt
      have hgk := HG.out k hlt
      obtain ⟨⟨a, ac⟩, hpk⟩ : ∃ p, wins.getD k (0, 0) = p := ⟨_, rfl⟩
      rw [hpk] at hck hwk hgk
      simp only [winV] at hck
      simp only at hwk hgk
      have hin := ((HIN.out.kept B2.out).kept hbr.out).win a wn (by rw [HCL.out]; exact hwk.1)
      have CP := pooled_any kind (some ⟨b, off + a, none⟩) wn ac _ wr hin hw1 hw2
      rw [poolZ_win kind x.cs a hw1, ← hgk] at CP
      have hst := take_next (l := L) (k := k) (by rw [HL1.out]; exact hlt)
      obtain ⟨y, hy⟩ : ∃ y, L.getD k 0 = y := ⟨_, rfl⟩
      rw [hy] at CP hst
      have CP1 := Lib.hid CP
      have HST := Lib.hid hst
      obtain ⟨L0, hL0⟩ : ∃ l, (L.take k).map (Value.int .i64) = l := ⟨_, rfl⟩
      have row0 := hrow.out
      rw [hL0] at row0
      have HL0 := Lib.hid hL0
      have ROW := Lib.hid row0
      clear CP hst hin hwk hgk hpk hy hL0 row0
      go_wp2_with fail
      refine CP1.out.mono ?_
      rintro e w3 ⟨rfl, m, rfl⟩
      have bq := below_drewN' hbr.out m
      have SS := snocT_of (t := 49) (B := w2.heap.size) (wr := wr.drewN m) y (row_kept ROW.out (below_drewN' (Below.refl _ _) m)) hbr.out.size (by omega)
      obtain ⟨s1, s2, s3, s4, s5, s6⟩ := SS
      have BQ := Lib.hid bq
      clear bq hck
      go_wp2_with (at_builtin; refine wpList_append_own _ rfl _ _ 32 rfl w2.heap.size 49 i0 (.int .i64 0) 1 8 Try.underlying32 hi hz0 hz1 hz2 rfl (by decide) _ k _ rfl s1 ⟨_, 0, none⟩ 1 1 [.int .i64 y] rfl rfl s2 s3 s4 s5 s6 ?_)
      intro v' w5 hown hgrow hnil
      rw [← HL0.out, ← snoc_int, ← HST.out] at hown
      have hown' := Lib.hid hown
      have hb5 := Lib.hid (snocT_below (row_kept ROW.out (below_drewN' (Below.refl _ _) m)) BQ.out hbr.out.size hgrow)
      clear hown hgrow hnil s1 s2 s3 s4 s5 s6
      go_wp2_with fail
      go_roundw
      case rel => exact ⟨k + 1, by omega, by go_num, hown', hb5⟩
      case measure => (simp [intOf]; try omega)
    · obtain rfl : k = M := by omega
      rw [List.take_of_length_le (by rw [HL1.out]; omega)] at hrow
      obtain ⟨g, c3, e1⟩ := Joins.ownsRow_form hrow.out hM0
      subst e1
      have b3 := B2.out.trans (hbr.out.mono B2.out.size)
      have J3' := J3.out.kept b3
      obtain ⟨e0, e1, f0, f1⟩ := J3'.see
      obtain ⟨h0, h1, -, -⟩ := (J3'.set (.slice (some ⟨ga, 0, none⟩) nn c) (.slice (some ⟨g, 0, none⟩) k c3)).see
      have hg := (hrow.out.lt g rfl).1
      have hw1' : w.heap.size < wB.heap.size := by have := nB.out; omega
      have r1 := row_kept HOS.out hbr.out
      have P : NewT w nn os k L (.agg #[.slice (some ⟨ga, 0, none⟩) nn c, .slice (some ⟨g, 0, none⟩) k c3]) ((wr.setCell ⟨w.heap.size + 1, 0, none⟩ (.slice (some ⟨ga, 0, none⟩) nn c)).setCell ⟨w.heap.size + 1, 1, none⟩ (.slice (some ⟨g, 0, none⟩) k c3)) :=
        ⟨_, c, _, c3, rfl, Joins.ownsRow_le (row_far (row_far r1 (by show w.heap.size + 1 < wB.heap.size; rw [nB.out]; omega)) (by show w.heap.size + 1 < wB.heap.size; rw [nB.out]; omega)) (by omega),
          Joins.ownsRow_le (row_far (row_far hrow.out (by show w.heap.size + 1 < w2.heap.size; have := B2.out.size; rw [nB.out] at this; omega)) (by show w.heap.size + 1 < w2.heap.size; have := B2.out.size; rw [nB.out] at this; omega)) (by have := B2.out.size; omega),
          (by rintro p q hp hq; cases hp; cases hq; show ga ≠ g; omega), (((z.out.trans (b3.mono z.out.size)).setCell (p := ⟨w.heap.size + 1, 0, none⟩) (by show w.heap.size ≤ w.heap.size + 1; omega) _).setCell (p := ⟨w.heap.size + 1, 1, none⟩) (by show w.heap.size ≤ w.heap.size + 1; omega) _)⟩
      have P' := Lib.hid P
      clear P r1 hrow hbr b3 J3' hg hw1' HOS B2 HO2
      go_wp2_with fail
      refine bodyPost_ret (v := .tuple #[.agg #[.slice (some ⟨ga, 0, none⟩) nn c, .slice (some ⟨g, 0, none⟩) k c3], .int .i64 0]) ?_ rfl ⟨_, rfl, P'.out⟩
      simp [results, Try.results14, go_sem, h0, h1]
end Go.Proofs.Ytdimpgojamhakaa

/-
  Contracts of package pool: spread and Back.
-/
namespace Go.Proofs.Ytdimpgojamhakaa
open Go.RowKit
set_option linter.unusedVariables false
set_option linter.unusedSimpArgs false

/-- The cells of a tensor that is under way: a row of one's own in block g; all else is as it was. -/
def RunF (wB : World) (g N c : Nat) (zs : List Int) (wr : World) : Prop := wr.ownsRow g 49 1 (.slice (some ⟨g, 0, none⟩) N c) N (zs.map (Value.int .i64)) ∧ Save (fun k => k = g) wB wr
theorem RunF.later {wB : World} {g N c : Nat} {zs : List Int} {wr w' : World} (h : RunF wB g N c zs wr) (hb : Below wr.heap.size wr w') : RunF wB g N c zs w' := ⟨row_kept h.1 hb, h.2.later hb⟩
theorem RunF.set {wB : World} {g N c : Nat} {zs : List Int} {wr : World} (h : RunF wB g N c zs wr) (j : Nat) (x : Int) : RunF wB g N c (zs.set j x) (wr.setCell ⟨g, j, none⟩ (.int .i64 x)) := by
  obtain ⟨h1, -⟩ := h.1.stored j (.int .i64 x)
  rw [← List.map_set] at h1
  exact ⟨h1, h.2.setCell rfl j _⟩
theorem RunF.cell {wB : World} {g N c : Nat} {zs : List Int} {wr : World} (h : RunF wB g N c zs wr) {j : Nat} (hj : j < N) : wr.cell? ⟨g, j, none⟩ = some (.int .i64 (zs.getD j 0)) ∧ wr.frozen? ⟨g, j, none⟩ = false := by
  refine ⟨?_, h.1.frozenAt j⟩
  have e := h.1.cellAt j (by omega)
  have hl : zs.length = N := by have := h.1.1; simpa using this
  rw [List.getElem?_map, List.getElem?_eq_getElem (by omega)] at e
  rw [e]
  simp [List.getD, List.getElem?_eq_getElem (show j < zs.length by omega)]
theorem row_self {w : World} {B : Nat} {e : TypeId} {k g l c n : Nat} {xs : List Value} (h : w.ownsRow B e k (.slice (some ⟨g, 0, none⟩) l c) n xs) : w.ownsRow g e k (.slice (some ⟨g, 0, none⟩) l c) n xs := by
  rcases h.2 with ⟨h2, -⟩ | ⟨g', cap, cur, hv, hbg, rest⟩
  · cases h2
  · simp only [Value.slice.injEq, Option.some.injEq, Addr.mk.injEq] at hv
    obtain ⟨⟨rfl, -, -⟩, rfl, rfl⟩ := hv
    exact ⟨h.1, .inr ⟨g, c, cur, rfl, Nat.le_refl _, rest⟩⟩
/-- What is added for one cell of the gradient, told by the window's own cells. -/
def spreadZ (kind : Int) (zs : List Int) (w a : Nat) (v : Int) : List (Nat × Int) := if kind = 1 then [(a + bestN zs 0 w, v)] else (List.range w).map fun u => (a + u, divF v ((w : Int) * 4294967296))
theorem spreadZ_win (kind : Int) (cs : List Int) {w : Nat} (a : Nat) (v : Int) (hw : 1 ≤ w) : spreadZ kind ((cs.drop a).take w) w a v = spreadL kind cs w a v := by
  unfold spreadZ spreadL
  rw [bestN_window cs a w (Nat.le_refl _) hw]

set_option maxRecDepth 100000 in
set_option maxHeartbeats 4000000 in
theorem spread_any (kind v : Int) (b off wn c1 g a c2 N c : Nat) (zs : List Int) (ts : List (Nat × Int)) (wB W : World) (h : IntsAt W (some ⟨b, off, none⟩) wn zs) (hr : RunF wB g N c (runL N ts) W) (ha : a + wn ≤ N) (h1 : 1 ≤ wn) (h2 : wn ≤ 1024) (hv1 : -9223372036854775808 ≤ v) (hv2 : v ≤ 9223372036854775807) :
    Calls Try.prog 38 #[.int .i64 kind, .int .i64 v, .slice (some ⟨b, off, none⟩) wn c1, .slice (some ⟨g, a, none⟩) wn c2] W fun e W' => (∃ x, e = .returned x) ∧ RunF wB g N c (runL N (ts ++ spreadZ kind zs wn a v)) W' := by
  by_cases ck : kind = 1
  · subst ck
    have C := pbest_any (some ⟨b, off, none⟩) wn c1 zs W h
    have hm := (bestN_range zs 0 h1).2
    rw [bestI_pos zs h1] at C
    have E : runL N (ts ++ spreadZ 1 zs wn a v) = addAt (runL N ts) (a + bestN zs 0 wn) v := by unfold spreadZ; rw [if_pos rfl, runL_snoc]
    rw [E]
    obtain ⟨m, hmE⟩ : ∃ m, bestN zs 0 wn = m := ⟨_, rfl⟩
    rw [hmE] at C hm ⊢
    have hm2 : m < wn := by omega
    obtain ⟨k1, k2⟩ := hr.cell (j := a + m) (by omega)
    have hb := (runL_fits N ts).getD (a + m)
    obtain ⟨y, hy⟩ : ∃ y, (runL N ts).getD (a + m) 0 = y := ⟨_, rfl⟩
    have P := hr.set (a + m) (sat (y + v))
    rw [← hy] at P
    have P' := Lib.hid (show RunF wB g N c (addAt (runL N ts) (a + m) v) _ from P)
    rw [hy] at k1 hb P'
    have AD := Lib.hid (add_any y v W hb.1 hb.2 hv1 hv2)
    have C1 := Lib.hid C
    obtain ⟨q, hq⟩ : ∃ q, sat (y + v) = q := ⟨_, rfl⟩
    rw [hq] at P' AD
    clear C h hr E hmE hm hy hb P hq
    go_enter Try.func38, Try.ntmps38
    go_wp2_with fail
    refine C1.out.mono ?_
    rintro e w' ⟨rfl, rfl⟩
    go_wp2_with fail
    refine AD.out.mono ?_
    rintro e w' ⟨rfl, rfl⟩
    go_wp2_with fail
    refine bodyPost_ret (results_none rfl _ _ _) rfl ⟨⟨_, rfl⟩, P'.out⟩
  · have SH := Lib.hid (pshare_any v wn W hv1 hv2 h2)
    obtain ⟨q, hq⟩ : ∃ q, divF v ((wn : Int) * 4294967296) = q := ⟨_, rfl⟩
    have hqb := divF_bounds v ((wn : Int) * 4294967296)
    rw [hq] at SH hqb
    have E : spreadZ kind zs wn a v = (List.range wn).map fun u => (a + u, q) := by unfold spreadZ; rw [if_neg ck, hq]
    rw [E]
    have ST : Hid (∀ u, runL N (ts ++ (List.range (u + 1)).map fun u => (a + u, q)) = addAt (runL N (ts ++ (List.range u).map fun u => (a + u, q))) (a + u) q) := Lib.hid (fun u => by
      rw [List.range_succ, List.map_append, ← List.append_assoc]
      exact runL_snoc _ _ _)
    have HR := Lib.hid hr
    clear h hr E hq
    go_enter Try.func38, Try.ntmps38
    go_wp2_with fail
    refine SH.out.mono ?_
    rintro e w' ⟨rfl, m, rfl⟩
    go_wp2_with fail
    go_loopw [31] (fun i wr => ∃ u : Nat, u ≤ wn ∧ i = .int .i64 u ∧ Hid (RunF wB g N c (runL N (ts ++ (List.range u).map fun u => (a + u, q))) wr)) (fun i _ => wn - (intOf i).toNat)
    case atStart => exact ⟨0, Nat.zero_le _, rfl, Lib.hid (by rw [List.range_zero, List.map_nil, List.append_nil]; exact HR.out.later (below_drewN' (Below.refl _ _) m))⟩
    case round =>
      obtain ⟨u, hu, rfl, hrow⟩ := hrel
      by_cases hlt : u < wn
      · obtain ⟨k1, k2⟩ := hrow.out.cell (j := a + u) (by omega)
        have hb := (runL_fits N (ts ++ (List.range u).map fun u => (a + u, q))).getD (a + u)
        obtain ⟨y, hy⟩ : ∃ y, (runL N (ts ++ (List.range u).map fun u => (a + u, q))).getD (a + u) 0 = y := ⟨_, rfl⟩
        have P := hrow.out.set (a + u) (sat (y + q))
        rw [← hy] at P
        have P' := show RunF wB g N c (addAt (runL N (ts ++ (List.range u).map fun u => (a + u, q))) (a + u) q) _ from P
        rw [← ST.out u] at P'
        rw [hy] at k1 hb P'
        have AD := add_any y q wr hb.1 hb.2 hqb.1 hqb.2
        obtain ⟨t, ht⟩ : ∃ t, sat (y + q) = t := ⟨_, rfl⟩
        rw [ht] at P' AD
        have P2 := Lib.hid P'
        have AD1 := Lib.hid AD
        clear P P' AD hy hb ht hrow
        go_wp2_with fail
        refine AD1.out.mono ?_
        rintro e w' ⟨rfl, rfl⟩
        go_wp2_with fail
        go_roundw
        case rel => exact ⟨u + 1, by omega, by go_num, P2⟩
        case measure => (simp [intOf]; try omega)
      · obtain rfl : u = wn := by omega
        go_wp2_with fail
        go_end0
        exact ⟨⟨_, rfl⟩, hrow.out⟩

set_option maxRecDepth 100000 in
set_option maxHeartbeats 2000000 in
theorem pback_no (kind : Int) (x G : TV) (wd st : Int) (w : World) (h : x.At w) (hE : kindE kind x.ss x.cl wd st ≠ 0) :
    Calls Try.prog 19 #[.int .i64 kind, .agg #[.slice x.sa x.sl x.sc, .slice x.ca x.cl x.cc], .agg #[.slice G.sa G.sl G.sc, .slice G.ca G.cl G.cc], .int .i64 wd, .int .i64 st] w (NilT w (kindE kind x.ss x.cl wd st)) := by
  obtain ⟨wA, hwA, J1, z1, n1⟩ := grid_box w (.slice x.sa x.sl x.sc) (.slice x.ca x.cl x.cc)
  obtain ⟨wB, hwB, J2, z2, n2⟩ := grid_box wA (.slice G.sa G.sl G.sc) (.slice G.ca G.cl G.cc)
  obtain ⟨wC, hwC, J3, z3, n3⟩ := grid_box wB (.slice none 0 0) (.slice none 0 0)
  rw [n1.out] at J2
  rw [n2.out, n1.out] at J3
  have z12 := z1.out.trans (z2.out.mono z1.out.size)
  have z := Lib.hid (z12.trans (z3.out.mono z12.size))
  have J1' := Lib.hid ((J1.out.kept z2.out).kept z3.out)
  have J2' := Lib.hid (J2.out.kept z3.out)
  have nC : Hid (wC.heap.size = w.heap.size + 3) := Lib.hid (by rw [n3.out, n2.out, n1.out])
  clear z12 J1 J2 z1 z2 z3 n1 n2 n3
  have O := pout_any kind x wd st wC (h.kept z.out)
  obtain ⟨j0, j1, -, -⟩ := J1'.out.see
  obtain ⟨l0, l1, -, -⟩ := J2'.out.see
  have O1 := Lib.hid (O.mono (fun e w' hh => hh.2 hE))
  obtain ⟨u, hu⟩ : ∃ u, kindE kind x.ss x.cl wd st = u := ⟨_, rfl⟩
  rw [hu] at O1 hE ⊢
  have hE' : ¬ u = 0 := hE
  clear O h hE hu l0 l1
  go_enter Try.func19, Try.ntmps19
  go_upto_region 1 with (fail)
  rw [hwA.out, hwB.out, hwC.out]
  go_wp2_with fail
  refine O1.out.mono ?_
  rintro e w1 ⟨rfl, hb⟩
  have J3' := J3.out.kept (hb)
  obtain ⟨e0, e1, f0, f1⟩ := J3'.see
  obtain ⟨h0, h1, -, -⟩ := (J3'.set (.slice none 0 0) (.slice none 0 0)).see
  have P := Lib.hid (((z.out.trans (Below.mono (hb) z.out.size)).setCell (p := ⟨w.heap.size + 1 + 1, 0, none⟩) (by show w.heap.size ≤ w.heap.size + 1 + 1; omega) (.slice none 0 0)).setCell (p := ⟨w.heap.size + 1 + 1, 1, none⟩) (by show w.heap.size ≤ w.heap.size + 1 + 1; omega) (.slice none 0 0))
  clear J3'
  go_wp2_with fail
  refine bodyPost_ret (v := .tuple #[.agg #[.slice none 0 0, .slice none 0 0], .int .i64 u]) ?_ rfl ⟨rfl, P.out⟩
  simp [results, Try.results19, go_sem, h0, h1]

set_option maxRecDepth 100000 in
set_option maxHeartbeats 4000000 in
theorem pback_bad (kind : Int) (x G : TV) (wd st : Int) (w : World) (h : x.At w) (hg : G.At w) (hE : kindE kind x.ss x.cl wd st = 0) (hG : gOk G (psS x.ss wd st) = false) :
    Calls Try.prog 19 #[.int .i64 kind, .agg #[.slice x.sa x.sl x.sc, .slice x.ca x.cl x.cc], .agg #[.slice G.sa G.sl G.sc, .slice G.ca G.cl G.cc], .int .i64 wd, .int .i64 st] w (NilT w 20) := by
  obtain ⟨-, hr, hps⟩ := kindE_parts hE
  obtain ⟨p1, p2, -, -⟩ := rightS_parts (rightT_parts hr).1
  obtain ⟨side, wn, s, nw, R, hp⟩ := pool_numbers hps
  have HF : Hid (Fits (psS x.ss wd st)) := Lib.hid (by
    intro t ht
    have := allR_mem (rightS_parts hp.right).2.2.1 ht
    omega)
  obtain ⟨wA, hwA, J1, z1, n1⟩ := grid_box w (.slice x.sa x.sl x.sc) (.slice x.ca x.cl x.cc)
  obtain ⟨wB, hwB, J2, z2, n2⟩ := grid_box wA (.slice G.sa G.sl G.sc) (.slice G.ca G.cl G.cc)
  obtain ⟨wC, hwC, J3, z3, n3⟩ := grid_box wB (.slice none 0 0) (.slice none 0 0)
  rw [n1.out] at J2
  rw [n2.out, n1.out] at J3
  have z12 := z1.out.trans (z2.out.mono z1.out.size)
  have z := Lib.hid (z12.trans (z3.out.mono z12.size))
  have J1' := Lib.hid ((J1.out.kept z2.out).kept z3.out)
  have J2' := Lib.hid (J2.out.kept z3.out)
  have nC : Hid (wC.heap.size = w.heap.size + 3) := Lib.hid (by rw [n3.out, n2.out, n1.out])
  clear z12 J1 J2 z1 z2 z3 n1 n2 n3
  have O := pout_any kind x wd st wC (h.kept z.out)
  obtain ⟨j0, j1, -, -⟩ := J1'.out.see
  obtain ⟨l0, l1, -, -⟩ := J2'.out.see
  have O1 := Lib.hid (O.mono (fun e w' hh => hh.1 hE))
  have TR := fun w1 (hb : Below wC.heap.size wC w1) => tright_any G.sa G.sl G.sc G.ss G.ca G.cl G.cc w1 ((hg.1.kept z.out).kept hb) (by have := hg.2.2.2; omega)
  have EQ := fun A n c w1 (hb : Below wC.heap.size wC w1) (hi : IntsAt w1 A n (psS x.ss wd st)) => equal_any G.sa G.sl G.sc G.ss A n c (psS x.ss wd st) w1 ((hg.1.kept z.out).kept hb) hi
  obtain ⟨os, hos⟩ : ∃ l, psS x.ss wd st = l := ⟨_, rfl⟩
  obtain ⟨n, hn⟩ : ∃ l, x.ss.length = l := ⟨_, rfl⟩
  rw [hos] at O1 HF hG
  rw [hn] at O1 p1 p2
  simp only [hos] at EQ
  clear O h hg hE hr hps hp hos hn
  unfold gOk at hG
  cases b1 : rightT G.ss G.cl
  · simp only [b1] at TR
    have TR1 := Lib.hid TR
    clear TR EQ hG b1
    go_enter Try.func19, Try.ntmps19
    go_upto_region 1 with (fail)
    rw [hwA.out, hwB.out, hwC.out]
    go_wp2_with fail
    refine O1.out.mono ?_
    rintro e w1 ⟨A, c, rfl, ho, hb1⟩
    obtain ⟨k0, k1, -, -⟩ := (J2'.out.kept hb1).see
    go_wp2_with fail
    refine (TR1.out w1 hb1).mono ?_
    rintro e w2 ⟨rfl, hb2⟩
    have J3' := J3.out.kept (hb1.trans (hb2.mono hb1.size))
    obtain ⟨e0, e1, f0, f1⟩ := J3'.see
    obtain ⟨h0, h1, -, -⟩ := (J3'.set (.slice none 0 0) (.slice none 0 0)).see
    have P := Lib.hid (((z.out.trans (Below.mono (hb1.trans (hb2.mono hb1.size)) z.out.size)).setCell (p := ⟨w.heap.size + 1 + 1, 0, none⟩) (by show w.heap.size ≤ w.heap.size + 1 + 1; omega) (.slice none 0 0)).setCell (p := ⟨w.heap.size + 1 + 1, 1, none⟩) (by show w.heap.size ≤ w.heap.size + 1 + 1; omega) (.slice none 0 0))
    clear J3'
    go_wp2_with fail
    refine bodyPost_ret (v := .tuple #[.agg #[.slice none 0 0, .slice none 0 0], .int .i64 20]) ?_ rfl ⟨rfl, P.out⟩
    simp [results, Try.results19, go_sem, h0, h1]
  · simp only [b1] at TR hG
    have hS : sameL G.ss os = false := by simpa using hG
    have TR1 := Lib.hid TR
    simp only [hS] at EQ
    have EQ1 := Lib.hid EQ
    clear TR EQ hG b1 hS
    go_enter Try.func19, Try.ntmps19
    go_upto_region 1 with (fail)
    rw [hwA.out, hwB.out, hwC.out]
    go_wp2_with fail
    refine O1.out.mono ?_
    rintro e w1 ⟨A, c, rfl, ho, hb1⟩
    obtain ⟨k0, k1, -, -⟩ := (J2'.out.kept hb1).see
    have HO := Lib.hid ho
    have HB1 := Lib.hid hb1
    clear ho hb1
    go_wp2_with fail
    refine (TR1.out w1 HB1.out).mono ?_
    rintro e w2 ⟨rfl, hb2⟩
    have HB2 := Lib.hid (HB1.out.trans (hb2.mono HB1.out.size))
    have OI := Lib.hid ((row_ints HO.out (by omega) HF.out).kept hb2)
    obtain ⟨m0, m1, -, -⟩ := (J2'.out.kept HB2.out).see
    clear hb2
    go_wp2_with fail
    refine (EQ1.out A n c w2 HB2.out OI.out).mono ?_
    rintro e w3 ⟨rfl, m, rfl⟩
    have J3' := J3.out.kept (below_drewN' HB2.out m)
    obtain ⟨e0, e1, f0, f1⟩ := J3'.see
    obtain ⟨h0, h1, -, -⟩ := (J3'.set (.slice none 0 0) (.slice none 0 0)).see
    have P := Lib.hid (((z.out.trans (Below.mono (below_drewN' HB2.out m) z.out.size)).setCell (p := ⟨w.heap.size + 1 + 1, 0, none⟩) (by show w.heap.size ≤ w.heap.size + 1 + 1; omega) (.slice none 0 0)).setCell (p := ⟨w.heap.size + 1 + 1, 1, none⟩) (by show w.heap.size ≤ w.heap.size + 1 + 1; omega) (.slice none 0 0))
    clear J3'
    go_wp2_with fail
    refine bodyPost_ret (v := .tuple #[.agg #[.slice none 0 0, .slice none 0 0], .int .i64 20]) ?_ rfl ⟨rfl, P.out⟩
    simp [results, Try.results19, go_sem, h0, h1]

set_option maxRecDepth 100000 in
set_option maxHeartbeats 8000000 in
theorem pback_ok (kind : Int) (x G : TV) (wd st : Int) (side wn s n R : Nat) (w : World) (h : x.At w) (hcap : x.Cap) (hg : G.At w) (hE : kindE kind x.ss x.cl wd st = 0) (hG : gOk G (psS x.ss wd st) = true) (hp : PoolN x.ss wd st side wn s n R) :
    Calls Try.prog 19 #[.int .i64 kind, .agg #[.slice x.sa x.sl x.sc, .slice x.ca x.cl x.cc], .agg #[.slice G.sa G.sl G.sc, .slice G.ca G.cl G.cc], .int .i64 wd, .int .i64 st] w (OkT w x.ss.length x.ss (R * side) (backRows kind x.cs G.cs side wn s n R)) := by
  rw [← back_rows hp kind x.cs G.cs]
  obtain ⟨-, hr, -⟩ := kindE_parts hE
  obtain ⟨hr1, hr2⟩ := rightT_parts hr
  obtain ⟨p1, p2, -, -⟩ := rightS_parts hr1
  have hcl : x.cl = R * side := by have := hp.cells; omega
  have hcl0 : 0 < x.cl := rightT_pos hr
  have hgk : rightT G.ss G.cl = true ∧ sameL G.ss (psS x.ss wd st) = true := by unfold gOk at hG; simpa using hG
  have hsame : G.ss = psS x.ss wd st := by have := hgk.2; unfold sameL at this; simpa using this
  have hgcl : G.cl = R * n := by have := (rightT_parts hgk.1).2; rw [hsame, hp.out] at this; omega
  obtain ⟨b, off, hca, hxcell⟩ := ints_cell h.2.1 hcl0
  obtain ⟨gb, go, hga, hgcell⟩ := ints_cell hg.2.1 (rightT_pos hgk.1)
  obtain ⟨wA, hwA, J1, z1, n1⟩ := grid_box w (.slice x.sa x.sl x.sc) (.slice x.ca x.cl x.cc)
  obtain ⟨wB, hwB, J2, z2, n2⟩ := grid_box wA (.slice G.sa G.sl G.sc) (.slice G.ca G.cl G.cc)
  obtain ⟨wC, hwC, J3, z3, n3⟩ := grid_box wB (.slice none 0 0) (.slice none 0 0)
  rw [n1.out] at J2
  rw [n2.out, n1.out] at J3
  have z12 := z1.out.trans (z2.out.mono z1.out.size)
  have z := Lib.hid (z12.trans (z3.out.mono z12.size))
  have J1' := Lib.hid ((J1.out.kept z2.out).kept z3.out)
  have J2' := Lib.hid (J2.out.kept z3.out)
  have nC : Hid (wC.heap.size = w.heap.size + 3) := Lib.hid (by rw [n3.out, n2.out, n1.out])
  clear z12 J1 J2 z1 z2 z3 n1 n2 n3
  have O := pout_any kind x wd st wC (h.kept z.out)
  obtain ⟨j0, j1, -, -⟩ := J1'.out.see
  obtain ⟨l0, l1, -, -⟩ := J2'.out.see
  have O1 := O.mono (fun e w' hh => hh.1 hE)
  have TR := fun w1 (hb : Below wC.heap.size wC w1) => tright_any G.sa G.sl G.sc G.ss G.ca G.cl G.cc w1 ((hg.1.kept z.out).kept hb) (by have := hg.2.2.2; omega)
  have EQ := fun A n c w1 (hb : Below wC.heap.size wC w1) (hi : IntsAt w1 A n (psS x.ss wd st)) => equal_any G.sa G.sl G.sc G.ss A n c (psS x.ss wd st) w1 ((hg.1.kept z.out).kept hb) hi
  have MK := fun w1 (hb : Below wC.heap.size wC w1) => make_ok x.sa x.sl x.sc x.ss 0 w1 ((h.kept z.out).1.kept hb) hr1 (R * side) hp.cells
  have WX := fun w1 (hb : Below wC.heap.size wC w1) => windows_any x.sa x.sl x.sc x.ss b off x.cl x.cc x.cs wd st side wn s n R w1 ((h.kept z.out).1.kept hb) hp p1 p2 hcl hcap.1 hcap.2
  have WB := Lib.hid (fun A l c bb cap w1 (hi : IntsAt w1 A l x.ss) (h1 : R * side ≤ cap) (h2 : cap ≤ 9223372036854775807) => windows_any A l c x.ss bb 0 (R * side) cap x.cs wd st side wn s n R w1 hi hp p1 p2 rfl h1 h2)
  rw [hgk.1] at TR
  simp only [hgk.2] at EQ
  have HF : Hid (Fits (psS x.ss wd st)) := Lib.hid (by
    intro t ht
    have := allR_mem (rightS_parts hp.right).2.2.1 ht
    omega)
  have HFX : Hid (Fits x.ss) := Lib.hid h.1.2.2.1
  have hN6 := hp.most
  have hM0 : 0 < R * n := Nat.mul_pos hp.R1 hp.n1
  have hN0 : 0 < R * side := by rw [← hcl]; exact hcl0
  have hM6 : R * n ≤ 65536 := Nat.le_trans hp.outle hp.most
  have HW := Lib.hid (fun k (hk : k < R * n) => winsL_at hp hk)
  have HC := Lib.hid (fun k (hk : k < R * n) (f : Nat × Nat → Value) => winsL_cell (side := side) (s := s) hk f)
  have hw1 : 1 ≤ wn := hp.w1
  have hw2 : wn ≤ 1024 := hp.w2
  have hlen : x.ss.length = x.sl := h.1.1
  have hsl4 : x.sl ≤ 4 := by omega
  have hsl1 : 1 ≤ x.sl := by omega
  have HIN := Lib.hid (h.kept z.out).2.1
  have HGC := Lib.hid (fun w1 (hb : Below wC.heap.size wC w1) k (hk : k < G.cl) => cell_later (z.out.trans (hb.mono z.out.size)) (hgcell k hk))
  have HGF := Lib.hid hg.2.1.2.2.1
  have hgbw : gb < wC.heap.size := by
    have h1 : gb < w.heap.size := World.block_lt_of_cell? w _ (hgcell 0 (rightT_pos hgk.1))
    have := z.out.size
    omega
  have hbw : b < wC.heap.size := by
    have h1 : b < w.heap.size := World.block_lt_of_cell? w _ (hxcell 0 hcl0)
    have := z.out.size
    omega
  obtain ⟨os, hos⟩ : ∃ l, psS x.ss wd st = l := ⟨_, rfl⟩
  rw [hlen] at O1 p1 p2 ⊢
  rw [hos] at O1 HF
  simp only [hos] at EQ
  rw [hca] at j1 J1' hwA O1 HIN ⊢
  rw [hga] at l1 J2' hwB TR ⊢
  obtain ⟨M, hM⟩ : ∃ M, R * n = M := ⟨_, rfl⟩
  obtain ⟨N, hN⟩ : ∃ N, R * side = N := ⟨_, rfl⟩
  obtain ⟨wins, hwins⟩ : ∃ l, winsL side s n R = l := ⟨_, rfl⟩
  simp only [hM, hN, hwins] at WX WB MK HW HC hM0 hM6 hN0 hN6 hcl hgcl ⊢
  have HCL := Lib.hid hcl
  have HGL := Lib.hid hgcl
  replace O1 := Lib.hid O1
  replace TR := Lib.hid TR
  replace EQ := Lib.hid EQ
  replace MK := Lib.hid MK
  replace WX := Lib.hid WX
  clear O h hg hE hG hp hr hr1 hr2 hcl hgcl hcap hcl0 hgk hsame hca hga hlen hM hN hwins hos hgcell hxcell
  go_enter Try.func19, Try.ntmps19
  go_upto_region 1 with (fail)
  rw [hwA.out, hwB.out, hwC.out]
  go_wp2_with fail
  refine O1.out.mono ?_
  rintro e w1 ⟨A, c, rfl, ho, hb1⟩
  obtain ⟨k0, k1, -, -⟩ := (J2'.out.kept hb1).see
  have HO := Lib.hid ho
  have B1 := Lib.hid hb1
  clear ho hb1
  go_wp2_with fail
  refine (TR.out w1 B1.out).mono ?_
  rintro e w2 ⟨rfl, hb2⟩
  have B2 := Lib.hid (B1.out.trans (hb2.mono B1.out.size))
  have OI := Lib.hid ((row_ints HO.out (by omega) HF.out).kept hb2)
  obtain ⟨m0, m1, -, -⟩ := (J2'.out.kept B2.out).see
  clear hb2 k0 k1
  go_wp2_with fail
  refine (EQ.out A x.sl c w2 B2.out OI.out).mono ?_
  rintro e w3 ⟨rfl, m, rfl⟩
  have B3 := Lib.hid (below_drewN' B2.out m)
  obtain ⟨n0, n1, -, -⟩ := (J1'.out.kept B3.out).see
  clear m0 m1 HO OI
  go_wp2_with fail
  refine (MK.out (w2.drewN m) B3.out).mono ?_
  rintro e w4 ⟨v, rfl, A', cS, A2', cC, rfl, o1, o2, ap, hb4⟩
  obtain ⟨gs, c', hv⟩ := Joins.ownsRow_form o1 hsl1
  simp only [Value.slice.injEq] at hv
  obtain ⟨rfl, -, rfl⟩ := hv
  obtain ⟨gc, c', hv⟩ := Joins.ownsRow_form o2 hN0
  simp only [Value.slice.injEq] at hv
  obtain ⟨rfl, -, rfl⟩ := hv
  have hap : gs ≠ gc := ap _ _ rfl rfl
  have hcc := row_caps o2
  have B4 := Lib.hid (B3.out.trans (hb4.mono B3.out.size))
  have hgs := o1.lt gs rfl
  have hgc := o2.lt gc rfl
  have hs3 := B3.out.size
  obtain ⟨wK, hwK, JK, zK, nK⟩ := grid_box w4 (.slice (some ⟨gs, 0, none⟩) x.sl cS) (.slice (some ⟨gc, 0, none⟩) N cC)
  have BK := Lib.hid (B4.out.trans (zK.out.mono B4.out.size))
  have O1K := Lib.hid (row_kept o1 zK.out)
  have O2K := Lib.hid (row_kept o2 zK.out)
  have WB1 := Lib.hid (WB.out (some ⟨gs, 0, none⟩) x.sl cS gc cC wK (row_ints O1K.out (by omega) HFX.out) hcc.1 hcc.2)
  clear o1 o2 ap hb4 n0 n1 MK TR EQ O1
  go_upto_region 7 with (fail)
  rw [hwK.out]
  obtain ⟨q0, q1, -, -⟩ := JK.out.see
  go_wp2_with fail
  refine WB1.out.mono ?_
  rintro e w5 ⟨A5, c5, rfl, ho5, hb5⟩
  obtain ⟨q2, c5', hv⟩ := Joins.ownsRow_form ho5 hM0
  simp only [Value.slice.injEq] at hv
  obtain ⟨rfl, -, rfl⟩ := hv
  have B5 := Lib.hid (BK.out.trans (hb5.mono BK.out.size))
  have R5 := Lib.hid ho5
  have K5 := Lib.hid hb5
  have hq2 := ho5.lt q2 rfl
  obtain ⟨i0, i1, -, -⟩ := (J1'.out.kept B5.out).see
  clear ho5 hb5 q0 q1 WB1
  go_wp2_with fail
  refine (WX.out w5 B5.out).mono ?_
  rintro e w6 ⟨A6, c6, rfl, ho6, hb6⟩
  obtain ⟨q3, c6', hv⟩ := Joins.ownsRow_form ho6 hM0
  simp only [Value.slice.injEq] at hv
  obtain ⟨rfl, -, rfl⟩ := hv
  have B6 := Lib.hid (B5.out.trans (hb6.mono B5.out.size))
  have K6 := Lib.hid (K5.out.trans (hb6.mono K5.out.size))
  have R56 := Lib.hid (row_kept R5.out hb6)
  have R6 := Lib.hid ho6
  have hq3 := ho6.lt q3 rfl
  have G6 := Lib.hid (row_kept O2K.out K6.out)
  have s6 := K6.out.size
  have s5 := K5.out.size
  have e3 := nK.out
  have e4 := zK.out.size
  have e5 := hb6.size
  have hgcK : gc < wK.heap.size := by omega
  have hd1 : gc ≠ q2 := by omega
  have hd2 : gc ≠ q3 := by omega
  have hd3 : gc ≠ gb := by omega
  have hd5 : gc ≠ b := by omega
  have eC := nC.out
  have hd4 : gc ≠ w.heap.size + 1 := by omega
  have HD := Lib.hid (And.intro hgs (And.intro hgc (And.intro hq2 hq3)))
  have HS := Lib.hid (And.intro hs3 (And.intro s6 (And.intro s5 (And.intro e3 (And.intro e4 (And.intro e5 eC))))))
  clear ho6 hb6 R5 i0 i1 WX hgs hgc hq2 hq3 hs3 s6 s5 e3 e4 e5 eC
  go_wp2_with fail
  go_loopw [57] (fun i wr => ∃ k : Nat, k ≤ M ∧ i = .int .i64 k ∧ Hid (RunF w6 gc N cC (runL N (backF kind x.cs G.cs wn wins k)) wr)) (fun i _ => M - (intOf i).toNat)
  case atStart => exact ⟨0, Nat.zero_le _, rfl, Lib.hid ⟨by unfold backF; rw [partsL_zero, runL_nil]; exact row_self G6.out, Save.refl _ _⟩⟩
  case round =>
    obtain ⟨k, hk, rfl, hrow⟩ := hrel
    by_cases hlt : k < M
    · have hwk := HW.out k hlt
      obtain ⟨⟨a, ac⟩, hpk⟩ : ∃ p, wins.getD k (0, 0) = p := ⟨_, rfl⟩
      have hck := (hrow.out.2.row R6.out (fun q hq e => by cases hq; exact hd2 e.symm)).cellAt k (by omega)
      have hck2 := (hrow.out.2.row R56.out (fun q hq e => by cases hq; exact hd1 e.symm)).cellAt k (by omega)
      rw [HC.out k hlt, hpk] at hck hck2
      rw [hpk] at hwk
      simp only [winV, Nat.zero_add] at hck hck2
      simp only at hwk
      have hin := (hrow.out.2.ints (HIN.out.kept B6.out) (fun q hq e => by cases hq; exact hd5 e.symm)).win a wn (by rw [HCL.out]; exact hwk.1)
      obtain ⟨y, hy⟩ : ∃ y, G.cs.getD k 0 = y := ⟨_, rfl⟩
      have hyb := HGF.out.getD k
      rw [hy] at hyb
      have SP0 := spread_any kind y b (off + a) wn ac gc a ac N cC _ _ w6 wr.drew (hin.kept (Below.refl _ _).drew) (hrow.out.later (Below.refl _ _).drew) hwk.1 hw1 hw2 hyb.1 hyb.2
      rw [spreadZ_win kind x.cs a y hw1] at SP0
      have hst : backF kind x.cs G.cs wn wins (k + 1) = backF kind x.cs G.cs wn wins k ++ spreadL kind x.cs wn a y := by rw [backF_succ, hpk, hy]
      rw [← hst] at SP0
      have SP := Lib.hid SP0
      have hg0 := HGC.out w6 B6.out k (by rw [HGL.out]; exact hlt)
      rw [hy] at hg0
      have SK : Hid (∀ {zs : List Int} w', RunF w6 gc N cC zs w' → (w'.cell? ⟨w.heap.size + 1, 1, none⟩ = some (.slice (some ⟨gb, go, none⟩) G.cl G.cc) ∧ w'.cell? ⟨gb, go + k, none⟩ = some (.int .i64 y) ∧ w'.cell? ⟨q2, k, none⟩ = some (.slice (some ⟨gc, a, none⟩) wn ac))) := Lib.hid (fun w' hh => ⟨hh.2.cell (J2'.out.kept B6.out).see.2.1 hd4.symm, hh.2.cell hg0 hd3.symm, by
        have := (hh.2.row R56.out (fun q hq e => by cases hq; exact hd1 e.symm)).cellAt k (by omega)
        rw [HC.out k hlt, hpk] at this
        simpa [winV] using this⟩)
      have S1 := Lib.hid (SK.out wr.drew (hrow.out.later (Below.refl _ _).drew))
      have hkg : k < G.cl := by rw [HGL.out]; exact hlt
      clear hck2 hin hpk hwk hyb hy SP0 hst hg0
      go_upto_region 11 with (fail)
      refine wp_region_held_drew (S := fun w' => w'.cell? ⟨w.heap.size + 1, 1, none⟩ = some (.slice (some ⟨gb, go, none⟩) G.cl G.cc) ∧ w'.cell? ⟨gb, go + k, none⟩ = some (.int .i64 y) ∧ w'.cell? ⟨q2, k, none⟩ = some (.slice (some ⟨gc, a, none⟩) wn ac)) (by kernel_rfl) S1.out (fun hHeld => ?_)
      refine held_take 0 (.int .i64 kind) rfl (by kernel_rfl) (by kernel_rfl) (by kernel_rfl) (fun _ _ _ h => h) (by rfl) (by intro w' hS; go_simp) (by assumption) ?_
      try simp only [Act.put, List.setIfInBounds_toArray, List.set_cons_zero, List.set_cons_succ]
      refine held_take 1 (.pointer (some ⟨w.heap.size + 1, 1, none⟩)) rfl (by kernel_rfl) (by kernel_rfl) (by kernel_rfl) (fun _ _ _ h => h) (by rfl) (by intro w' hS; go_simp) (by assumption) ?_
      try simp only [Act.put, List.setIfInBounds_toArray, List.set_cons_zero, List.set_cons_succ]
      refine held_take 2 (.slice (some ⟨gb, go, none⟩) G.cl G.cc) rfl (by kernel_rfl) (by kernel_rfl) (by kernel_rfl) (fun _ _ _ h => h) (by rfl) (by intro w' hS; go_simp) (by assumption) ?_
      try simp only [Act.put, List.setIfInBounds_toArray, List.set_cons_zero, List.set_cons_succ]
      refine held_take 3 (.int .i64 k) rfl (by kernel_rfl) (by kernel_rfl) (by kernel_rfl) (fun _ _ _ h => h) (by rfl) (by intro w' hS; go_simp) (by assumption) ?_
      try simp only [Act.put, List.setIfInBounds_toArray, List.set_cons_zero, List.set_cons_succ]
      refine held_take 4 (.pointer (some ⟨gb, go + k, none⟩)) rfl (by kernel_rfl) (by kernel_rfl) (by kernel_rfl) (fun _ _ _ h => h) (by rfl) (by intro w' hS; go_simp) (by assumption) ?_
      try simp only [Act.put, List.setIfInBounds_toArray, List.set_cons_zero, List.set_cons_succ]
      refine held_take 5 (.int .i64 y) rfl (by kernel_rfl) (by kernel_rfl) (by kernel_rfl) (fun _ _ _ h => h) (by rfl) (by intro w' hS; go_simp) (by assumption) ?_
      try simp only [Act.put, List.setIfInBounds_toArray, List.set_cons_zero, List.set_cons_succ]
      refine held_take 6 (.slice (some ⟨b, off + a, none⟩) wn ac) rfl (by kernel_rfl) (by kernel_rfl) (by kernel_rfl) (fun _ _ _ h => h) (by rfl) (by intro w' hS; go_simp) (by assumption) ?_
      try simp only [Act.put, List.setIfInBounds_toArray, List.set_cons_zero, List.set_cons_succ]
      refine held_take 7 (.slice (some ⟨q2, 0, none⟩) M c5) rfl (by kernel_rfl) (by kernel_rfl) (by kernel_rfl) (fun _ _ _ h => h) (by rfl) (by intro w' hS; go_simp) (by assumption) ?_
      try simp only [Act.put, List.setIfInBounds_toArray, List.set_cons_zero, List.set_cons_succ]
      refine held_take 8 (.int .i64 k) rfl (by kernel_rfl) (by kernel_rfl) (by kernel_rfl) (fun _ _ _ h => h) (by rfl) (by intro w' hS; go_simp) (by assumption) ?_
      try simp only [Act.put, List.setIfInBounds_toArray, List.set_cons_zero, List.set_cons_succ]
      refine held_take 9 (.pointer (some ⟨q2, k, none⟩)) rfl (by kernel_rfl) (by kernel_rfl) (by kernel_rfl) (fun _ _ _ h => h) (by rfl) (by intro w' hS; go_simp) (by assumption) ?_
      try simp only [Act.put, List.setIfInBounds_toArray, List.set_cons_zero, List.set_cons_succ]
      refine held_take 10 (.slice (some ⟨gc, a, none⟩) wn ac) rfl (by kernel_rfl) (by kernel_rfl) (by kernel_rfl) (fun _ _ _ h => h) (by rfl) (by intro w' hS; go_simp) (by assumption) ?_
      try simp only [Act.put, List.setIfInBounds_toArray, List.set_cons_zero, List.set_cons_succ]
      refine held_call 11 (by kernel_rfl) rfl (by rfl) (fun K hK => ?_)
      go_simp
      refine (SP.out).mono ?_
      rintro e w7 ⟨⟨vv, rfl⟩, HR7⟩
      have S7 := SK.out _ HR7
      have R7 := Lib.hid HR7
      clear HR7
      go_wp2_with fail
      refine hK.out _ _ S7 (fun hHeld => ?_)
      try simp only [Act.put, List.setIfInBounds_toArray, List.set_cons_zero, List.set_cons_succ]
      refine wpAnyH_done (by kernel_rfl) ?_ _
      go_wp2_with fail
      go_roundw
      case rel => exact ⟨k + 1, by omega, by go_num, R7⟩
      case measure => (simp [intOf]; try omega)
    · obtain rfl : k = M := by omega
      obtain ⟨⟨o1, o2, o3, o4⟩, o5, o6, o7, o8, o9, o10, o11⟩ := And.intro HD.out HS.out
      have hz2 : w.heap.size + 1 + 1 < wC.heap.size := by omega
      have hz6 : w.heap.size ≤ w6.heap.size := by omega
      have JK' := hrow.out.2.gat (JK.out.kept K6.out) (fun e => by omega)
      obtain ⟨q0, q1, -, -⟩ := JK'.see
      have J3' := hrow.out.2.gat (J3.out.kept B6.out) (fun e => by omega)
      obtain ⟨e0, e1, f0, f1⟩ := J3'.see
      obtain ⟨h0, h1, -, -⟩ := (J3'.set (.slice (some ⟨gs, 0, none⟩) x.sl cS) (.slice (some ⟨gc, 0, none⟩) N cC)).see
      have r1 := hrow.out.2.row (row_kept O1K.out K6.out) (fun q hq e => by cases hq; exact hap e)
      have bw := hrow.out.2.below (z.out.trans (B6.out.mono z.out.size)) hz6 (fun k e => by rw [e]; omega)
      have P : NewT w x.sl x.ss N (runL N (backF kind x.cs G.cs wn wins k)) (.agg #[.slice (some ⟨gs, 0, none⟩) x.sl cS, .slice (some ⟨gc, 0, none⟩) N cC]) ((wr.setCell ⟨w.heap.size + 1 + 1, 0, none⟩ (.slice (some ⟨gs, 0, none⟩) x.sl cS)).setCell ⟨w.heap.size + 1 + 1, 1, none⟩ (.slice (some ⟨gc, 0, none⟩) N cC)) :=
        ⟨_, cS, _, cC, rfl, Joins.ownsRow_le (row_far (row_far r1 (by show w.heap.size + 1 + 1 < (w2.drewN m).heap.size; omega)) (by show w.heap.size + 1 + 1 < (w2.drewN m).heap.size; omega)) (by omega),
          Joins.ownsRow_le (row_far (row_far hrow.out.1 (by show w.heap.size + 1 + 1 < gc; omega)) (by show w.heap.size + 1 + 1 < gc; omega)) (by omega),
          (by rintro p q hp hq; cases hp; cases hq; exact hap), (bw.setCell (p := ⟨w.heap.size + 1 + 1, 0, none⟩) (by show w.heap.size ≤ w.heap.size + 1 + 1; omega) _).setCell (p := ⟨w.heap.size + 1 + 1, 1, none⟩) (by show w.heap.size ≤ w.heap.size + 1 + 1; omega) _⟩
      have P' := Lib.hid P
      clear P r1 hrow bw J3' JK' o1 o2 o3 o4 o5 o6 o7 o8 o9 o10 o11
      go_wp2_with fail
      refine bodyPost_ret (v := .tuple #[.agg #[.slice (some ⟨gs, 0, none⟩) x.sl cS, .slice (some ⟨gc, 0, none⟩) N cC], .int .i64 0]) ?_ rfl ⟨_, rfl, P'.out⟩
      simp [results, Try.results19, go_sem, h0, h1]
end Go.Proofs.Ytdimpgojamhakaa

