/-
  The statements' case of layer 6: four tensors, in a block and as an argument; small, fits, same.
-/
import Derived.Test.YtlpecdfiagklpaaLaw06A
namespace Go.Proofs.Ytlpecdfiagklpaa
open Go.RowKit Go.ChangeShapes Go.WideShapes Go.Deep
set_option linter.unusedVariables false
set_option linter.unusedSimpArgs false

/-- A block holds a case. -/
def CAt (w : World) (K : Nat) (a b c d e f g h : Value) : Prop := w.heap[K]? = some (.cells #[a, b, c, d, e, f, g, h] 28 (0, 0))
section
variable {w w' : World} {K : Nat} {a b c d e f g h : Value}
theorem CAt.lt (q : CAt w K a b c d e f g h) : K < w.heap.size := (Array.getElem?_eq_some_iff.1 q).1
theorem CAt.kept (q : CAt w K a b c d e f g h) (hb : Below w.heap.size w w') : CAt w' K a b c d e f g h := (hb.block K q.lt).trans q
theorem CAt.see (q : CAt w K a b c d e f g h) : (w.cell? ⟨K, 0, none⟩ = some a ∧ w.cell? ⟨K, 1, none⟩ = some b) ∧ (w.cell? ⟨K, 2, none⟩ = some c ∧ w.cell? ⟨K, 3, none⟩ = some d) ∧ (w.cell? ⟨K, 4, none⟩ = some e ∧ w.cell? ⟨K, 5, none⟩ = some f) ∧ (w.cell? ⟨K, 6, none⟩ = some g ∧ w.cell? ⟨K, 7, none⟩ = some h) := by
  refine ⟨⟨?_, ?_⟩, ⟨?_, ?_⟩, ⟨?_, ?_⟩, ?_, ?_⟩ <;> (rw [Joins.cell_of_block q]; rfl)
end
theorem case_box (w : World) (a b c d e f g h : Value) : ∃ wB, Hid (w.alloc (.cells #[a, b, c, d, e, f, g, h] 28) = wB) ∧ Hid (CAt wB w.heap.size a b c d e f g h) ∧ Hid (Below w.heap.size w wB) ∧ Hid (wB.heap.size = w.heap.size + 1) :=
  ⟨_, Lib.hid rfl, Lib.hid (World.alloc_heap_new w _), Lib.hid ((Below.refl _ _).alloc (Nat.le_refl _) _), Lib.hid (by simp)⟩

theorem ccellsC : Try.prog.cellsOf 28 = 8 := by kernel_rfl
set_option maxRecDepth 100000 in
theorem case_open {H : Type} {enc : TypeId × Value → H} {w : World} {base : Nat} {spare : Nat → Bool} {held : Bool} {r : Reach} {b0 : Nat} {v : Value} {d : DataW H} {p : List MemPlace} (hv : Value.okWide Try.prog w r b0 28 v)
    (h : DataW.Trod enc Try.prog w base spare held 28 v d p) (hw : ∀ n ∈ d.weights Try.prog 28, n ≤ reachBytes) :
    ∃ W B x G : TV, v = .agg #[.slice (TV.sa W) (TV.sl W) (TV.sc W), .slice (TV.ca W) (TV.cl W) (TV.cc W), .slice (TV.sa B) (TV.sl B) (TV.sc B), .slice (TV.ca B) (TV.cl B) (TV.cc B), .slice (TV.sa x) (TV.sl x) (TV.sc x), .slice (TV.ca x) (TV.cl x) (TV.cc x), .slice (TV.sa G) (TV.sl G) (TV.sc G), .slice (TV.ca G) (TV.cl G) (TV.cc G)] ∧
      (W.At w ∧ W.Cap) ∧ (B.At w ∧ B.Cap) ∧ (x.At w ∧ x.Cap) ∧ (G.At w ∧ G.Cap) := by
  obtain ⟨⟨l⟩, rfl, hsz⟩ := okWide_struct Try.underlying28 hv
  obtain ⟨fuel, hf⟩ := h
  obtain ⟨xs, n, -, hxy, -, hxl, hat⟩ := DataW.trod_struct Try.underlying28 hf
  replace hsz : l.length = Try.prog.cellsOf 28 := hsz
  rw [ccellsC] at hsz
  match l, hsz, xs, hxl with
  | [c0, c1, c2, c3, c4, c5, c6, c7], _, [(d0, p0), (d1, p1), (d2, p2), (d3, p3)], _ =>
    have ed : d = .agg [d0, d1, d2, d3] := by
      have := congrArg Prod.fst hxy
      exact this
    rw [ed] at hw
    have hwe : ∀ {j : Nat} {t : TypeId} {x : DataW H}, [26, 26, 26, 26][j]? = some t → [d0, d1, d2, d3][j]? = some x → ∀ n ∈ x.weights Try.prog t, n ≤ reachBytes := fun ht hd n hn => hw n (by
      simp only [DataW.weights, Try.underlying28]
      exact DataW.weights_mem_each ht hd n hn)
    have h0 := hat 0 _ rfl
    have g0 : DataW.trod enc Try.prog w base spare held n 26 (([c0, c1, c2, c3, c4, c5, c6, c7].drop 0).take (Try.prog.cellsOf 26)) = some (d0, p0) := h0
    rw [gcellsG] at g0
    replace g0 : DataW.trod enc Try.prog w base spare held n 26 [c0, c1] = some (d0, p0) := g0
    obtain ⟨t0, e0a, e0b, A0, C0⟩ := grid_one2 g0 (hwe (j := 0) rfl rfl)
    have h1 := hat 1 _ rfl
    have g1 : DataW.trod enc Try.prog w base spare held n 26 (([c0, c1, c2, c3, c4, c5, c6, c7].drop 2).take (Try.prog.cellsOf 26)) = some (d1, p1) := h1
    rw [gcellsG] at g1
    replace g1 : DataW.trod enc Try.prog w base spare held n 26 [c2, c3] = some (d1, p1) := g1
    obtain ⟨t1, e1a, e1b, A1, C1⟩ := grid_one2 g1 (hwe (j := 1) rfl rfl)
    have h2 := hat 2 _ rfl
    have g2 : DataW.trod enc Try.prog w base spare held n 26 (([c0, c1, c2, c3, c4, c5, c6, c7].drop 4).take (Try.prog.cellsOf 26)) = some (d2, p2) := h2
    rw [gcellsG] at g2
    replace g2 : DataW.trod enc Try.prog w base spare held n 26 [c4, c5] = some (d2, p2) := g2
    obtain ⟨t2, e2a, e2b, A2, C2⟩ := grid_one2 g2 (hwe (j := 2) rfl rfl)
    have h3 := hat 3 _ rfl
    have g3 : DataW.trod enc Try.prog w base spare held n 26 (([c0, c1, c2, c3, c4, c5, c6, c7].drop 6).take (Try.prog.cellsOf 26)) = some (d3, p3) := h3
    rw [gcellsG] at g3
    replace g3 : DataW.trod enc Try.prog w base spare held n 26 [c6, c7] = some (d3, p3) := g3
    obtain ⟨t3, e3a, e3b, A3, C3⟩ := grid_one2 g3 (hwe (j := 3) rfl rfl)
    subst e0a e0b e1a e1b e2a e2b e3a e3b
    exact ⟨t0, t1, t2, t3, rfl, ⟨A0, C0⟩, ⟨A1, C1⟩, ⟨A2, C2⟩, A3, C3⟩

/-- May a case be gone through? -/
def smallC (W B x G : TV) : Bool := decide (W.cl ≤ 400) && (decide (B.cl ≤ 100) && (decide (x.cl ≤ 100) && (decide (G.cl ≤ 100) && (decide (W.sl ≤ 9) && (decide (B.sl ≤ 9) && (decide (x.sl ≤ 9) && decide (G.sl ≤ 9)))))))
theorem smallC_parts {W B x G : TV} (h : smallC W B x G = true) : W.cl ≤ 400 ∧ B.cl ≤ 100 ∧ x.cl ≤ 100 ∧ G.cl ≤ 100 ∧ W.sl ≤ 9 ∧ B.sl ≤ 9 ∧ x.sl ≤ 9 ∧ G.sl ≤ 9 := by
  simpa [smallC] using h

set_option maxHeartbeats 2000000 in
theorem small6_any (W B x G : TV) (w : World) :
    Calls Try.prog 8 #[.agg #[.slice W.sa W.sl W.sc, .slice W.ca W.cl W.cc, .slice B.sa B.sl B.sc, .slice B.ca B.cl B.cc, .slice x.sa x.sl x.sc, .slice x.ca x.cl x.cc, .slice G.sa G.sl G.sc, .slice G.ca G.cl G.cc]] w fun e w' => e = .returned (.bool (smallC W B x G)) ∧ Below w.heap.size w w' := by
  unfold smallC
  obtain ⟨l0, e0⟩ : ∃ l, W.cl = l := ⟨_, rfl⟩
  obtain ⟨l1, e1⟩ : ∃ l, B.cl = l := ⟨_, rfl⟩
  obtain ⟨l2, e2⟩ : ∃ l, x.cl = l := ⟨_, rfl⟩
  obtain ⟨l3, e3⟩ : ∃ l, G.cl = l := ⟨_, rfl⟩
  obtain ⟨l4, e4⟩ : ∃ l, W.sl = l := ⟨_, rfl⟩
  obtain ⟨l5, e5⟩ : ∃ l, B.sl = l := ⟨_, rfl⟩
  obtain ⟨l6, e6⟩ : ∃ l, x.sl = l := ⟨_, rfl⟩
  obtain ⟨l7, e7⟩ : ∃ l, G.sl = l := ⟨_, rfl⟩
  rw [e0, e1, e2, e3, e4, e5, e6, e7]
  clear e0 e1 e2 e3 e4 e5 e6 e7
  obtain ⟨wA, hwA, J, z, -⟩ := case_box w (.slice W.sa l4 W.sc) (.slice W.ca l0 W.cc) (.slice B.sa l5 B.sc) (.slice B.ca l1 B.cc) (.slice x.sa l6 x.sc) (.slice x.ca l2 x.cc) (.slice G.sa l7 G.sc) (.slice G.ca l3 G.cc)
  obtain ⟨⟨j0, j1⟩, ⟨j2, j3⟩, ⟨j4, j5⟩, j6, j7⟩ := J.out.see
  by_cases c0 : l0 ≤ 400
  case neg =>
    have E : Hid (false = (decide (l0 ≤ 400) && (decide (l1 ≤ 100) && (decide (l2 ≤ 100) && (decide (l3 ≤ 100) && (decide (l4 ≤ 9) && (decide (l5 ≤ 9) && (decide (l6 ≤ 9) && (decide (l7 ≤ 9)))))))))) := Lib.hid (by simp [c0])
    have d0 : decide ((l0 : Int) ≤ 400) = false := decide_eq_false (by omega)
    have f0 : decide (l0 ≤ 400) = false := decide_eq_false (by omega)
    clear c0
    go_enter Try.func8, Try.ntmps8
    go_upto_region 1 with (fail)
    rw [hwA.out]
    go_wp2_with fail
    go_ret
    exact ⟨ret_bool (E.out), z.out⟩
  have d0 : decide ((l0 : Int) ≤ 400) = true := decide_eq_true (by omega)
  have f0 : decide (l0 ≤ 400) = true := decide_eq_true c0
  by_cases c1 : l1 ≤ 100
  case neg =>
    have E : Hid (false = (decide (l0 ≤ 400) && (decide (l1 ≤ 100) && (decide (l2 ≤ 100) && (decide (l3 ≤ 100) && (decide (l4 ≤ 9) && (decide (l5 ≤ 9) && (decide (l6 ≤ 9) && (decide (l7 ≤ 9)))))))))) := Lib.hid (by simp [c0, c1])
    have d1 : decide ((l1 : Int) ≤ 100) = false := decide_eq_false (by omega)
    have f1 : decide (l1 ≤ 100) = false := decide_eq_false (by omega)
    clear c1
    go_enter Try.func8, Try.ntmps8
    go_upto_region 1 with (fail)
    rw [hwA.out]
    go_wp2_with fail
    go_ret
    exact ⟨ret_bool (E.out), z.out⟩
  have d1 : decide ((l1 : Int) ≤ 100) = true := decide_eq_true (by omega)
  have f1 : decide (l1 ≤ 100) = true := decide_eq_true c1
  by_cases c2 : l2 ≤ 100
  case neg =>
    have E : Hid (false = (decide (l0 ≤ 400) && (decide (l1 ≤ 100) && (decide (l2 ≤ 100) && (decide (l3 ≤ 100) && (decide (l4 ≤ 9) && (decide (l5 ≤ 9) && (decide (l6 ≤ 9) && (decide (l7 ≤ 9)))))))))) := Lib.hid (by simp [c0, c1, c2])
    have d2 : decide ((l2 : Int) ≤ 100) = false := decide_eq_false (by omega)
    have f2 : decide (l2 ≤ 100) = false := decide_eq_false (by omega)
    clear c2
    go_enter Try.func8, Try.ntmps8
    go_upto_region 1 with (fail)
    rw [hwA.out]
    go_wp2_with fail
    go_ret
    exact ⟨ret_bool (E.out), z.out⟩
  have d2 : decide ((l2 : Int) ≤ 100) = true := decide_eq_true (by omega)
  have f2 : decide (l2 ≤ 100) = true := decide_eq_true c2
  by_cases c3 : l3 ≤ 100
  case neg =>
    have E : Hid (false = (decide (l0 ≤ 400) && (decide (l1 ≤ 100) && (decide (l2 ≤ 100) && (decide (l3 ≤ 100) && (decide (l4 ≤ 9) && (decide (l5 ≤ 9) && (decide (l6 ≤ 9) && (decide (l7 ≤ 9)))))))))) := Lib.hid (by simp [c0, c1, c2, c3])
    have d3 : decide ((l3 : Int) ≤ 100) = false := decide_eq_false (by omega)
    have f3 : decide (l3 ≤ 100) = false := decide_eq_false (by omega)
    clear c3
    go_enter Try.func8, Try.ntmps8
    go_upto_region 1 with (fail)
    rw [hwA.out]
    go_wp2_with fail
    go_ret
    exact ⟨ret_bool (E.out), z.out⟩
  have d3 : decide ((l3 : Int) ≤ 100) = true := decide_eq_true (by omega)
  have f3 : decide (l3 ≤ 100) = true := decide_eq_true c3
  by_cases c4 : l4 ≤ 9
  case neg =>
    have E : Hid (false = (decide (l0 ≤ 400) && (decide (l1 ≤ 100) && (decide (l2 ≤ 100) && (decide (l3 ≤ 100) && (decide (l4 ≤ 9) && (decide (l5 ≤ 9) && (decide (l6 ≤ 9) && (decide (l7 ≤ 9)))))))))) := Lib.hid (by simp [c0, c1, c2, c3, c4])
    have d4 : decide ((l4 : Int) ≤ 9) = false := decide_eq_false (by omega)
    have f4 : decide (l4 ≤ 9) = false := decide_eq_false (by omega)
    clear c4
    go_enter Try.func8, Try.ntmps8
    go_upto_region 1 with (fail)
    rw [hwA.out]
    go_wp2_with fail
    go_ret
    exact ⟨ret_bool (E.out), z.out⟩
  have d4 : decide ((l4 : Int) ≤ 9) = true := decide_eq_true (by omega)
  have f4 : decide (l4 ≤ 9) = true := decide_eq_true c4
  by_cases c5 : l5 ≤ 9
  case neg =>
    have E : Hid (false = (decide (l0 ≤ 400) && (decide (l1 ≤ 100) && (decide (l2 ≤ 100) && (decide (l3 ≤ 100) && (decide (l4 ≤ 9) && (decide (l5 ≤ 9) && (decide (l6 ≤ 9) && (decide (l7 ≤ 9)))))))))) := Lib.hid (by simp [c0, c1, c2, c3, c4, c5])
    have d5 : decide ((l5 : Int) ≤ 9) = false := decide_eq_false (by omega)
    have f5 : decide (l5 ≤ 9) = false := decide_eq_false (by omega)
    clear c5
    go_enter Try.func8, Try.ntmps8
    go_upto_region 1 with (fail)
    rw [hwA.out]
    go_wp2_with fail
    go_ret
    exact ⟨ret_bool (E.out), z.out⟩
  have d5 : decide ((l5 : Int) ≤ 9) = true := decide_eq_true (by omega)
  have f5 : decide (l5 ≤ 9) = true := decide_eq_true c5
  by_cases c6 : l6 ≤ 9
  case neg =>
    have E : Hid (false = (decide (l0 ≤ 400) && (decide (l1 ≤ 100) && (decide (l2 ≤ 100) && (decide (l3 ≤ 100) && (decide (l4 ≤ 9) && (decide (l5 ≤ 9) && (decide (l6 ≤ 9) && (decide (l7 ≤ 9)))))))))) := Lib.hid (by simp [c0, c1, c2, c3, c4, c5, c6])
    have d6 : decide ((l6 : Int) ≤ 9) = false := decide_eq_false (by omega)
    have f6 : decide (l6 ≤ 9) = false := decide_eq_false (by omega)
    clear c6
    go_enter Try.func8, Try.ntmps8
    go_upto_region 1 with (fail)
    rw [hwA.out]
    go_wp2_with fail
    go_ret
    exact ⟨ret_bool (E.out), z.out⟩
  have d6 : decide ((l6 : Int) ≤ 9) = true := decide_eq_true (by omega)
  have f6 : decide (l6 ≤ 9) = true := decide_eq_true c6
  by_cases c7 : l7 ≤ 9
  case neg =>
    have E : Hid (false = (decide (l0 ≤ 400) && (decide (l1 ≤ 100) && (decide (l2 ≤ 100) && (decide (l3 ≤ 100) && (decide (l4 ≤ 9) && (decide (l5 ≤ 9) && (decide (l6 ≤ 9) && (decide (l7 ≤ 9)))))))))) := Lib.hid (by simp [c0, c1, c2, c3, c4, c5, c6, c7])
    have d7 : decide ((l7 : Int) ≤ 9) = false := decide_eq_false (by omega)
    have f7 : decide (l7 ≤ 9) = false := decide_eq_false (by omega)
    clear c7
    go_enter Try.func8, Try.ntmps8
    go_upto_region 1 with (fail)
    rw [hwA.out]
    go_wp2_with fail
    go_ret
    exact ⟨ret_bool (E.out), z.out⟩
  have d7 : decide ((l7 : Int) ≤ 9) = true := decide_eq_true (by omega)
  have f7 : decide (l7 ≤ 9) = true := decide_eq_true c7
  have E : Hid (true = (decide (l0 ≤ 400) && (decide (l1 ≤ 100) && (decide (l2 ≤ 100) && (decide (l3 ≤ 100) && (decide (l4 ≤ 9) && (decide (l5 ≤ 9) && (decide (l6 ≤ 9) && (decide (l7 ≤ 9)))))))))) := Lib.hid (by simp [c0, c1, c2, c3, c4, c5, c6, c7])
  clear c0 c1 c2 c3 c4 c5 c6 c7
  go_enter Try.func8, Try.ntmps8
  go_upto_region 1 with (fail)
  rw [hwA.out]
  go_wp2_with fail
  go_ret
  exact ⟨ret_bool (E.out), z.out⟩

theorem fitT_n1 {ws bs xs : List Int} {wn bn xn : Nat} (h : rightT ws wn = false) : false = fitT ws wn bs bn xs xn := by unfold fitT matT; rw [h]; simp
theorem fitT_n2 {ws bs xs : List Int} {wn bn xn : Nat} (h : rightT bs bn = false) : false = fitT ws wn bs bn xs xn := by unfold fitT outT; rw [h]; simp
theorem fitT_n4 {ws bs xs : List Int} {wn bn xn : Nat} (h : ¬ ws.length = 2) : false = fitT ws wn bs bn xs xn := by
  unfold fitT matT
  rw [decide_eq_false (show ¬ (ws.length : Int) = 2 by omega)]; simp
theorem fitT_n5 {ws bs xs : List Int} {wn bn xn : Nat} (h : sameL bs [ws.getD 0 0] = false) : false = fitT ws wn bs bn xs xn := by unfold fitT outT; rw [h]; simp
theorem fitT_y {ws bs xs : List Int} {wn bn xn : Nat} (h1 : rightT ws wn = true) (h2 : rightT bs bn = true) (h3 : rightT xs xn = true) (h4 : ws.length = 2) (h5 : sameL bs [ws.getD 0 0] = true) : ((xn : Int) == ws.getD 1 0) = fitT ws wn bs bn xs xn := by
  refine fitT_4 ?_ ?_ h3
  · unfold matT; rw [h1, decide_eq_true (show (ws.length : Int) = 2 by omega)]; rfl
  · unfold outT; rw [h2, h5]; rfl
set_option maxRecDepth 100000 in
set_option maxHeartbeats 4000000 in
theorem fits6_any (W B x G : TV) (w : World) (hW : W.At w) (hB : B.At w) (hx : x.At w) :
    Calls Try.prog 11 #[.agg #[.slice W.sa W.sl W.sc, .slice W.ca W.cl W.cc, .slice B.sa B.sl B.sc, .slice B.ca B.cl B.cc, .slice x.sa x.sl x.sc, .slice x.ca x.cl x.cc, .slice G.sa G.sl G.sc, .slice G.ca G.cl G.cc]] w fun e w' => e = .returned (.bool (fitT W.ss W.cl B.ss B.cl x.ss x.cl)) ∧ Below w.heap.size w w' := by
  have C1 := fun w1 (hb : Below w.heap.size w w1) => rright_any W.sa W.sl W.sc W.ss W.ca W.cl W.cc w1 (hW.1.kept hb) (by have := hW.2.2.2; omega)
  have C2 := fun w1 (hb : Below w.heap.size w w1) => rright_any B.sa B.sl B.sc B.ss B.ca B.cl B.cc w1 (hB.1.kept hb) (by have := hB.2.2.2; omega)
  have C3 := fun w1 (hb : Below w.heap.size w w1) => rright_any x.sa x.sl x.sc x.ss x.ca x.cl x.cc w1 (hx.1.kept hb) (by have := hx.2.2.2; omega)
  obtain ⟨wA, hwA, J, z, -⟩ := case_box w (.slice W.sa W.sl W.sc) (.slice W.ca W.cl W.cc) (.slice B.sa B.sl B.sc) (.slice B.ca B.cl B.cc) (.slice x.sa x.sl x.sc) (.slice x.ca x.cl x.cc) (.slice G.sa G.sl G.sc) (.slice G.ca G.cl G.cc)
  replace C1 := fun w1 (hb : Below wA.heap.size wA w1) => C1 w1 (z.out.trans (hb.mono z.out.size))
  replace C2 := fun w1 (hb : Below wA.heap.size wA w1) => C2 w1 (z.out.trans (hb.mono z.out.size))
  replace C3 := fun w1 (hb : Below wA.heap.size wA w1) => C3 w1 (z.out.trans (hb.mono z.out.size))
  have hWl := hW.1.1
  cases b1 : rightT W.ss W.cl
  · have E := Lib.hid (fitT_n1 (bs := B.ss) (bn := B.cl) (xs := x.ss) (xn := x.cl) b1)
    simp only [b1] at C1
    replace C1 := Lib.hid C1
    clear C2 C3 b1 hW hB hx hWl
    go_enter Try.func11, Try.ntmps11
    go_upto_region 1 with (fail)
    rw [hwA.out]
    have SK := Lib.hid (fun w' (hb : Below wA.heap.size wA w') => (show w'.cell? ⟨w.heap.size, 0, none⟩ = some (.slice W.sa W.sl W.sc) ∧ w'.cell? ⟨w.heap.size, 1, none⟩ = some (.slice W.ca W.cl W.cc) from ⟨(J.out.kept hb).see.1.1, (J.out.kept hb).see.1.2⟩))
    have t1 := Lib.hid (show Below wA.heap.size wA wA.drew from (Below.refl _ _).drew)
    refine wp_region_held_drew (S := fun w' => w'.cell? ⟨w.heap.size, 0, none⟩ = some (.slice W.sa W.sl W.sc) ∧ w'.cell? ⟨w.heap.size, 1, none⟩ = some (.slice W.ca W.cl W.cc)) (by kernel_rfl) (SK.out _ t1.out) (fun hHeld => ?_)
    refine held_take 0 (.pointer (some ⟨w.heap.size, 0, none⟩)) rfl (by kernel_rfl) (by kernel_rfl) (by kernel_rfl) (fun _ _ _ h => h) (by rfl) (by intro w' hS; go_simp) (by assumption) ?_
    try simp only [Act.put, List.setIfInBounds_toArray, List.set_cons_zero, List.set_cons_succ]
    refine held_take 1 (.agg #[.slice W.sa W.sl W.sc, .slice W.ca W.cl W.cc]) rfl (by kernel_rfl) (by kernel_rfl) (by kernel_rfl) (fun _ _ _ h => h) (by rfl) (by intro w' hS; go_simp) (by assumption) ?_
    try simp only [Act.put, List.setIfInBounds_toArray, List.set_cons_zero, List.set_cons_succ]
    refine held_call 2 (by kernel_rfl) rfl (by rfl) (fun K hK => ?_)
    go_simp
    refine (C1.out wA.drew t1.out).mono ?_
    rintro e wq1 ⟨rfl, hb⟩
    have bq1 := Lib.hid (t1.out.trans ((hb).mono t1.out.size))
    go_wp2_with fail
    refine hK.out _ _ (SK.out _ bq1.out) (fun hHeld => ?_)
    try simp only [Act.put, List.setIfInBounds_toArray, List.set_cons_zero, List.set_cons_succ]
    refine held_take 3 (.bool false) rfl (by kernel_rfl) (by kernel_rfl) (by kernel_rfl) (fun _ _ _ h => h) (by rfl) (by intro w' hS; go_simp) (by assumption) ?_
    try simp only [Act.put, List.setIfInBounds_toArray, List.set_cons_zero, List.set_cons_succ]
    refine held_skip 4 rfl (by kernel_rfl) (by kernel_rfl) (by kernel_rfl) (fun _ _ _ h => h) (by rfl) (by assumption) ?_
    try simp only [Act.put, List.setIfInBounds_toArray, List.set_cons_zero, List.set_cons_succ]
    refine held_skip 5 rfl (by kernel_rfl) (by kernel_rfl) (by kernel_rfl) (fun _ _ _ h => h) (by rfl) (by assumption) ?_
    try simp only [Act.put, List.setIfInBounds_toArray, List.set_cons_zero, List.set_cons_succ]
    refine held_left 6 (by kernel_rfl) rfl (by rfl) (by assumption) ?_
    try simp only [Act.put, List.setIfInBounds_toArray, List.set_cons_zero, List.set_cons_succ]
    refine held_take 7 (.bool false) rfl (by kernel_rfl) (by kernel_rfl) (by kernel_rfl) (fun _ _ _ h => h) (by rfl) (by intro w' hS; go_simp) (by assumption) ?_
    try simp only [Act.put, List.setIfInBounds_toArray, List.set_cons_zero, List.set_cons_succ]
    refine held_take 8 (.bool false) rfl (by kernel_rfl) (by kernel_rfl) (by kernel_rfl) (fun _ _ _ h => h) (by rfl) (by intro w' hS; go_simp) (by assumption) ?_
    try simp only [Act.put, List.setIfInBounds_toArray, List.set_cons_zero, List.set_cons_succ]
    refine held_skip 9 rfl (by kernel_rfl) (by kernel_rfl) (by kernel_rfl) (fun _ _ _ h => h) (by rfl) (by assumption) ?_
    try simp only [Act.put, List.setIfInBounds_toArray, List.set_cons_zero, List.set_cons_succ]
    refine held_skip 10 rfl (by kernel_rfl) (by kernel_rfl) (by kernel_rfl) (fun _ _ _ h => h) (by rfl) (by assumption) ?_
    try simp only [Act.put, List.setIfInBounds_toArray, List.set_cons_zero, List.set_cons_succ]
    refine held_left 11 (by kernel_rfl) rfl (by rfl) (by assumption) ?_
    try simp only [Act.put, List.setIfInBounds_toArray, List.set_cons_zero, List.set_cons_succ]
    refine held_take 12 (.bool false) rfl (by kernel_rfl) (by kernel_rfl) (by kernel_rfl) (fun _ _ _ h => h) (by rfl) (by intro w' hS; go_simp) (by assumption) ?_
    try simp only [Act.put, List.setIfInBounds_toArray, List.set_cons_zero, List.set_cons_succ]
    refine held_take 13 (.bool false) rfl (by kernel_rfl) (by kernel_rfl) (by kernel_rfl) (fun _ _ _ h => h) (by rfl) (by intro w' hS; go_simp) (by assumption) ?_
    try simp only [Act.put, List.setIfInBounds_toArray, List.set_cons_zero, List.set_cons_succ]
    refine held_skip 14 rfl (by kernel_rfl) (by kernel_rfl) (by kernel_rfl) (fun _ _ _ h => h) (by rfl) (by assumption) ?_
    try simp only [Act.put, List.setIfInBounds_toArray, List.set_cons_zero, List.set_cons_succ]
    refine held_skip 15 rfl (by kernel_rfl) (by kernel_rfl) (by kernel_rfl) (fun _ _ _ h => h) (by rfl) (by assumption) ?_
    try simp only [Act.put, List.setIfInBounds_toArray, List.set_cons_zero, List.set_cons_succ]
    refine held_skip 16 rfl (by kernel_rfl) (by kernel_rfl) (by kernel_rfl) (fun _ _ _ h => h) (by rfl) (by assumption) ?_
    try simp only [Act.put, List.setIfInBounds_toArray, List.set_cons_zero, List.set_cons_succ]
    refine held_skip 17 rfl (by kernel_rfl) (by kernel_rfl) (by kernel_rfl) (fun _ _ _ h => h) (by rfl) (by assumption) ?_
    try simp only [Act.put, List.setIfInBounds_toArray, List.set_cons_zero, List.set_cons_succ]
    refine held_skip 18 rfl (by kernel_rfl) (by kernel_rfl) (by kernel_rfl) (fun _ _ _ h => h) (by rfl) (by assumption) ?_
    try simp only [Act.put, List.setIfInBounds_toArray, List.set_cons_zero, List.set_cons_succ]
    refine held_take 19 (.bool false) rfl (by kernel_rfl) (by kernel_rfl) (by kernel_rfl) (fun _ _ _ h => h) (by rfl) (by intro w' hS; go_simp) (by assumption) ?_
    try simp only [Act.put, List.setIfInBounds_toArray, List.set_cons_zero, List.set_cons_succ]
    refine held_take 20 (.bool false) rfl (by kernel_rfl) (by kernel_rfl) (by kernel_rfl) (fun _ _ _ h => h) (by rfl) (by intro w' hS; go_simp) (by assumption) ?_
    try simp only [Act.put, List.setIfInBounds_toArray, List.set_cons_zero, List.set_cons_succ]
    refine held_skip 21 rfl (by kernel_rfl) (by kernel_rfl) (by kernel_rfl) (fun _ _ _ h => h) (by rfl) (by assumption) ?_
    try simp only [Act.put, List.setIfInBounds_toArray, List.set_cons_zero, List.set_cons_succ]
    refine held_skip 22 rfl (by kernel_rfl) (by kernel_rfl) (by kernel_rfl) (fun _ _ _ h => h) (by rfl) (by assumption) ?_
    try simp only [Act.put, List.setIfInBounds_toArray, List.set_cons_zero, List.set_cons_succ]
    refine held_skip 23 rfl (by kernel_rfl) (by kernel_rfl) (by kernel_rfl) (fun _ _ _ h => h) (by rfl) (by assumption) ?_
    try simp only [Act.put, List.setIfInBounds_toArray, List.set_cons_zero, List.set_cons_succ]
    refine held_skip 24 rfl (by kernel_rfl) (by kernel_rfl) (by kernel_rfl) (fun _ _ _ h => h) (by rfl) (by assumption) ?_
    try simp only [Act.put, List.setIfInBounds_toArray, List.set_cons_zero, List.set_cons_succ]
    refine held_skip 25 rfl (by kernel_rfl) (by kernel_rfl) (by kernel_rfl) (fun _ _ _ h => h) (by rfl) (by assumption) ?_
    try simp only [Act.put, List.setIfInBounds_toArray, List.set_cons_zero, List.set_cons_succ]
    refine held_skip 26 rfl (by kernel_rfl) (by kernel_rfl) (by kernel_rfl) (fun _ _ _ h => h) (by rfl) (by assumption) ?_
    try simp only [Act.put, List.setIfInBounds_toArray, List.set_cons_zero, List.set_cons_succ]
    refine held_skip 27 rfl (by kernel_rfl) (by kernel_rfl) (by kernel_rfl) (fun _ _ _ h => h) (by rfl) (by assumption) ?_
    try simp only [Act.put, List.setIfInBounds_toArray, List.set_cons_zero, List.set_cons_succ]
    refine held_skip 28 rfl (by kernel_rfl) (by kernel_rfl) (by kernel_rfl) (fun _ _ _ h => h) (by rfl) (by assumption) ?_
    try simp only [Act.put, List.setIfInBounds_toArray, List.set_cons_zero, List.set_cons_succ]
    refine held_left 29 (by kernel_rfl) rfl (by rfl) (by assumption) ?_
    try simp only [Act.put, List.setIfInBounds_toArray, List.set_cons_zero, List.set_cons_succ]
    refine held_left 30 (by kernel_rfl) rfl (by rfl) (by assumption) ?_
    try simp only [Act.put, List.setIfInBounds_toArray, List.set_cons_zero, List.set_cons_succ]
    refine held_take 31 (.bool false) rfl (by kernel_rfl) (by kernel_rfl) (by kernel_rfl) (fun _ _ _ h => h) (by rfl) (by intro w' hS; go_simp) (by assumption) ?_
    try simp only [Act.put, List.setIfInBounds_toArray, List.set_cons_zero, List.set_cons_succ]
    refine held_take 32 (.bool false) rfl (by kernel_rfl) (by kernel_rfl) (by kernel_rfl) (fun _ _ _ h => h) (by rfl) (by intro w' hS; go_simp) (by assumption) ?_
    try simp only [Act.put, List.setIfInBounds_toArray, List.set_cons_zero, List.set_cons_succ]
    refine held_skip 33 rfl (by kernel_rfl) (by kernel_rfl) (by kernel_rfl) (fun _ _ _ h => h) (by rfl) (by assumption) ?_
    try simp only [Act.put, List.setIfInBounds_toArray, List.set_cons_zero, List.set_cons_succ]
    refine held_skip 34 rfl (by kernel_rfl) (by kernel_rfl) (by kernel_rfl) (fun _ _ _ h => h) (by rfl) (by assumption) ?_
    try simp only [Act.put, List.setIfInBounds_toArray, List.set_cons_zero, List.set_cons_succ]
    refine held_skip 35 rfl (by kernel_rfl) (by kernel_rfl) (by kernel_rfl) (fun _ _ _ h => h) (by rfl) (by assumption) ?_
    try simp only [Act.put, List.setIfInBounds_toArray, List.set_cons_zero, List.set_cons_succ]
    refine held_skip 36 rfl (by kernel_rfl) (by kernel_rfl) (by kernel_rfl) (fun _ _ _ h => h) (by rfl) (by assumption) ?_
    try simp only [Act.put, List.setIfInBounds_toArray, List.set_cons_zero, List.set_cons_succ]
    refine held_skip 37 rfl (by kernel_rfl) (by kernel_rfl) (by kernel_rfl) (fun _ _ _ h => h) (by rfl) (by assumption) ?_
    try simp only [Act.put, List.setIfInBounds_toArray, List.set_cons_zero, List.set_cons_succ]
    refine held_skip 38 rfl (by kernel_rfl) (by kernel_rfl) (by kernel_rfl) (fun _ _ _ h => h) (by rfl) (by assumption) ?_
    try simp only [Act.put, List.setIfInBounds_toArray, List.set_cons_zero, List.set_cons_succ]
    refine held_skip 39 rfl (by kernel_rfl) (by kernel_rfl) (by kernel_rfl) (fun _ _ _ h => h) (by rfl) (by assumption) ?_
    try simp only [Act.put, List.setIfInBounds_toArray, List.set_cons_zero, List.set_cons_succ]
    refine held_skip 40 rfl (by kernel_rfl) (by kernel_rfl) (by kernel_rfl) (fun _ _ _ h => h) (by rfl) (by assumption) ?_
    try simp only [Act.put, List.setIfInBounds_toArray, List.set_cons_zero, List.set_cons_succ]
    refine held_skip 41 rfl (by kernel_rfl) (by kernel_rfl) (by kernel_rfl) (fun _ _ _ h => h) (by rfl) (by assumption) ?_
    try simp only [Act.put, List.setIfInBounds_toArray, List.set_cons_zero, List.set_cons_succ]
    refine held_skip 42 rfl (by kernel_rfl) (by kernel_rfl) (by kernel_rfl) (fun _ _ _ h => h) (by rfl) (by assumption) ?_
    try simp only [Act.put, List.setIfInBounds_toArray, List.set_cons_zero, List.set_cons_succ]
    refine held_take 43 (.bool false) rfl (by kernel_rfl) (by kernel_rfl) (by kernel_rfl) (fun _ _ _ h => h) (by rfl) (by intro w' hS; go_simp) (by assumption) ?_
    try simp only [Act.put, List.setIfInBounds_toArray, List.set_cons_zero, List.set_cons_succ]
    refine held_take 44 (.bool false) rfl (by kernel_rfl) (by kernel_rfl) (by kernel_rfl) (fun _ _ _ h => h) (by rfl) (by intro w' hS; go_simp) (by assumption) ?_
    try simp only [Act.put, List.setIfInBounds_toArray, List.set_cons_zero, List.set_cons_succ]
    refine wpAnyH_done (by kernel_rfl) ?_ _
    go_wp2_with fail
    go_ret
    exact ⟨ret_bool E.out, z.out.trans (bq1.out.mono z.out.size)⟩
  simp only [b1] at C1
  replace C1 := Lib.hid C1
  cases b2 : rightT B.ss B.cl
  · have E := Lib.hid (fitT_n2 (ws := W.ss) (wn := W.cl) (xs := x.ss) (xn := x.cl) b2)
    simp only [b2] at C2
    replace C2 := Lib.hid C2
    clear C3 b1 b2 hW hB hx hWl
    go_enter Try.func11, Try.ntmps11
    go_upto_region 1 with (fail)
    rw [hwA.out]
    have SK := Lib.hid (fun w' (hb : Below wA.heap.size wA w') => (show w'.cell? ⟨w.heap.size, 0, none⟩ = some (.slice W.sa W.sl W.sc) ∧ w'.cell? ⟨w.heap.size, 1, none⟩ = some (.slice W.ca W.cl W.cc) ∧ w'.cell? ⟨w.heap.size, 2, none⟩ = some (.slice B.sa B.sl B.sc) ∧ w'.cell? ⟨w.heap.size, 3, none⟩ = some (.slice B.ca B.cl B.cc) from ⟨(J.out.kept hb).see.1.1, (J.out.kept hb).see.1.2, (J.out.kept hb).see.2.1.1, (J.out.kept hb).see.2.1.2⟩))
    have t1 := Lib.hid (show Below wA.heap.size wA wA.drew from (Below.refl _ _).drew)
    refine wp_region_held_drew (S := fun w' => w'.cell? ⟨w.heap.size, 0, none⟩ = some (.slice W.sa W.sl W.sc) ∧ w'.cell? ⟨w.heap.size, 1, none⟩ = some (.slice W.ca W.cl W.cc) ∧ w'.cell? ⟨w.heap.size, 2, none⟩ = some (.slice B.sa B.sl B.sc) ∧ w'.cell? ⟨w.heap.size, 3, none⟩ = some (.slice B.ca B.cl B.cc)) (by kernel_rfl) (SK.out _ t1.out) (fun hHeld => ?_)
    refine held_take 0 (.pointer (some ⟨w.heap.size, 0, none⟩)) rfl (by kernel_rfl) (by kernel_rfl) (by kernel_rfl) (fun _ _ _ h => h) (by rfl) (by intro w' hS; go_simp) (by assumption) ?_
    try simp only [Act.put, List.setIfInBounds_toArray, List.set_cons_zero, List.set_cons_succ]
    refine held_take 1 (.agg #[.slice W.sa W.sl W.sc, .slice W.ca W.cl W.cc]) rfl (by kernel_rfl) (by kernel_rfl) (by kernel_rfl) (fun _ _ _ h => h) (by rfl) (by intro w' hS; go_simp) (by assumption) ?_
    try simp only [Act.put, List.setIfInBounds_toArray, List.set_cons_zero, List.set_cons_succ]
    refine held_call 2 (by kernel_rfl) rfl (by rfl) (fun K hK => ?_)
    go_simp
    refine (C1.out wA.drew t1.out).mono ?_
    rintro e wq1 ⟨rfl, hb⟩
    have bq1 := Lib.hid (t1.out.trans ((hb).mono t1.out.size))
    go_wp2_with fail
    refine hK.out _ _ (SK.out _ bq1.out) (fun hHeld => ?_)
    try simp only [Act.put, List.setIfInBounds_toArray, List.set_cons_zero, List.set_cons_succ]
    refine held_take 3 (.bool true) rfl (by kernel_rfl) (by kernel_rfl) (by kernel_rfl) (fun _ _ _ h => h) (by rfl) (by intro w' hS; go_simp) (by assumption) ?_
    try simp only [Act.put, List.setIfInBounds_toArray, List.set_cons_zero, List.set_cons_succ]
    refine held_take 4 (.pointer (some ⟨w.heap.size, 2, none⟩)) rfl (by kernel_rfl) (by kernel_rfl) (by kernel_rfl) (fun _ _ _ h => h) (by rfl) (by intro w' hS; go_simp) (by assumption) ?_
    try simp only [Act.put, List.setIfInBounds_toArray, List.set_cons_zero, List.set_cons_succ]
    refine held_take 5 (.agg #[.slice B.sa B.sl B.sc, .slice B.ca B.cl B.cc]) rfl (by kernel_rfl) (by kernel_rfl) (by kernel_rfl) (fun _ _ _ h => h) (by rfl) (by intro w' hS; go_simp) (by assumption) ?_
    try simp only [Act.put, List.setIfInBounds_toArray, List.set_cons_zero, List.set_cons_succ]
    refine held_call 6 (by kernel_rfl) rfl (by rfl) (fun K hK => ?_)
    go_simp
    refine (C2.out wq1 bq1.out).mono ?_
    rintro e wq2 ⟨rfl, hb⟩
    have bq2 := Lib.hid (bq1.out.trans ((hb).mono bq1.out.size))
    go_wp2_with fail
    refine hK.out _ _ (SK.out _ bq2.out) (fun hHeld => ?_)
    try simp only [Act.put, List.setIfInBounds_toArray, List.set_cons_zero, List.set_cons_succ]
    refine held_take 7 (.bool false) rfl (by kernel_rfl) (by kernel_rfl) (by kernel_rfl) (fun _ _ _ h => h) (by rfl) (by intro w' hS; go_simp) (by assumption) ?_
    try simp only [Act.put, List.setIfInBounds_toArray, List.set_cons_zero, List.set_cons_succ]
    refine held_take 8 (.bool false) rfl (by kernel_rfl) (by kernel_rfl) (by kernel_rfl) (fun _ _ _ h => h) (by rfl) (by intro w' hS; go_simp) (by assumption) ?_
    try simp only [Act.put, List.setIfInBounds_toArray, List.set_cons_zero, List.set_cons_succ]
    refine held_skip 9 rfl (by kernel_rfl) (by kernel_rfl) (by kernel_rfl) (fun _ _ _ h => h) (by rfl) (by assumption) ?_
    try simp only [Act.put, List.setIfInBounds_toArray, List.set_cons_zero, List.set_cons_succ]
    refine held_skip 10 rfl (by kernel_rfl) (by kernel_rfl) (by kernel_rfl) (fun _ _ _ h => h) (by rfl) (by assumption) ?_
    try simp only [Act.put, List.setIfInBounds_toArray, List.set_cons_zero, List.set_cons_succ]
    refine held_left 11 (by kernel_rfl) rfl (by rfl) (by assumption) ?_
    try simp only [Act.put, List.setIfInBounds_toArray, List.set_cons_zero, List.set_cons_succ]
    refine held_take 12 (.bool false) rfl (by kernel_rfl) (by kernel_rfl) (by kernel_rfl) (fun _ _ _ h => h) (by rfl) (by intro w' hS; go_simp) (by assumption) ?_
    try simp only [Act.put, List.setIfInBounds_toArray, List.set_cons_zero, List.set_cons_succ]
    refine held_take 13 (.bool false) rfl (by kernel_rfl) (by kernel_rfl) (by kernel_rfl) (fun _ _ _ h => h) (by rfl) (by intro w' hS; go_simp) (by assumption) ?_
    try simp only [Act.put, List.setIfInBounds_toArray, List.set_cons_zero, List.set_cons_succ]
    refine held_skip 14 rfl (by kernel_rfl) (by kernel_rfl) (by kernel_rfl) (fun _ _ _ h => h) (by rfl) (by assumption) ?_
    try simp only [Act.put, List.setIfInBounds_toArray, List.set_cons_zero, List.set_cons_succ]
    refine held_skip 15 rfl (by kernel_rfl) (by kernel_rfl) (by kernel_rfl) (fun _ _ _ h => h) (by rfl) (by assumption) ?_
    try simp only [Act.put, List.setIfInBounds_toArray, List.set_cons_zero, List.set_cons_succ]
    refine held_skip 16 rfl (by kernel_rfl) (by kernel_rfl) (by kernel_rfl) (fun _ _ _ h => h) (by rfl) (by assumption) ?_
    try simp only [Act.put, List.setIfInBounds_toArray, List.set_cons_zero, List.set_cons_succ]
    refine held_skip 17 rfl (by kernel_rfl) (by kernel_rfl) (by kernel_rfl) (fun _ _ _ h => h) (by rfl) (by assumption) ?_
    try simp only [Act.put, List.setIfInBounds_toArray, List.set_cons_zero, List.set_cons_succ]
    refine held_skip 18 rfl (by kernel_rfl) (by kernel_rfl) (by kernel_rfl) (fun _ _ _ h => h) (by rfl) (by assumption) ?_
    try simp only [Act.put, List.setIfInBounds_toArray, List.set_cons_zero, List.set_cons_succ]
    refine held_take 19 (.bool false) rfl (by kernel_rfl) (by kernel_rfl) (by kernel_rfl) (fun _ _ _ h => h) (by rfl) (by intro w' hS; go_simp) (by assumption) ?_
    try simp only [Act.put, List.setIfInBounds_toArray, List.set_cons_zero, List.set_cons_succ]
    refine held_take 20 (.bool false) rfl (by kernel_rfl) (by kernel_rfl) (by kernel_rfl) (fun _ _ _ h => h) (by rfl) (by intro w' hS; go_simp) (by assumption) ?_
    try simp only [Act.put, List.setIfInBounds_toArray, List.set_cons_zero, List.set_cons_succ]
    refine held_skip 21 rfl (by kernel_rfl) (by kernel_rfl) (by kernel_rfl) (fun _ _ _ h => h) (by rfl) (by assumption) ?_
    try simp only [Act.put, List.setIfInBounds_toArray, List.set_cons_zero, List.set_cons_succ]
    refine held_skip 22 rfl (by kernel_rfl) (by kernel_rfl) (by kernel_rfl) (fun _ _ _ h => h) (by rfl) (by assumption) ?_
    try simp only [Act.put, List.setIfInBounds_toArray, List.set_cons_zero, List.set_cons_succ]
    refine held_skip 23 rfl (by kernel_rfl) (by kernel_rfl) (by kernel_rfl) (fun _ _ _ h => h) (by rfl) (by assumption) ?_
    try simp only [Act.put, List.setIfInBounds_toArray, List.set_cons_zero, List.set_cons_succ]
    refine held_skip 24 rfl (by kernel_rfl) (by kernel_rfl) (by kernel_rfl) (fun _ _ _ h => h) (by rfl) (by assumption) ?_
    try simp only [Act.put, List.setIfInBounds_toArray, List.set_cons_zero, List.set_cons_succ]
    refine held_skip 25 rfl (by kernel_rfl) (by kernel_rfl) (by kernel_rfl) (fun _ _ _ h => h) (by rfl) (by assumption) ?_
    try simp only [Act.put, List.setIfInBounds_toArray, List.set_cons_zero, List.set_cons_succ]
    refine held_skip 26 rfl (by kernel_rfl) (by kernel_rfl) (by kernel_rfl) (fun _ _ _ h => h) (by rfl) (by assumption) ?_
    try simp only [Act.put, List.setIfInBounds_toArray, List.set_cons_zero, List.set_cons_succ]
    refine held_skip 27 rfl (by kernel_rfl) (by kernel_rfl) (by kernel_rfl) (fun _ _ _ h => h) (by rfl) (by assumption) ?_
    try simp only [Act.put, List.setIfInBounds_toArray, List.set_cons_zero, List.set_cons_succ]
    refine held_skip 28 rfl (by kernel_rfl) (by kernel_rfl) (by kernel_rfl) (fun _ _ _ h => h) (by rfl) (by assumption) ?_
    try simp only [Act.put, List.setIfInBounds_toArray, List.set_cons_zero, List.set_cons_succ]
    refine held_left 29 (by kernel_rfl) rfl (by rfl) (by assumption) ?_
    try simp only [Act.put, List.setIfInBounds_toArray, List.set_cons_zero, List.set_cons_succ]
    refine held_left 30 (by kernel_rfl) rfl (by rfl) (by assumption) ?_
    try simp only [Act.put, List.setIfInBounds_toArray, List.set_cons_zero, List.set_cons_succ]
    refine held_take 31 (.bool false) rfl (by kernel_rfl) (by kernel_rfl) (by kernel_rfl) (fun _ _ _ h => h) (by rfl) (by intro w' hS; go_simp) (by assumption) ?_
    try simp only [Act.put, List.setIfInBounds_toArray, List.set_cons_zero, List.set_cons_succ]
    refine held_take 32 (.bool false) rfl (by kernel_rfl) (by kernel_rfl) (by kernel_rfl) (fun _ _ _ h => h) (by rfl) (by intro w' hS; go_simp) (by assumption) ?_
    try simp only [Act.put, List.setIfInBounds_toArray, List.set_cons_zero, List.set_cons_succ]
    refine held_skip 33 rfl (by kernel_rfl) (by kernel_rfl) (by kernel_rfl) (fun _ _ _ h => h) (by rfl) (by assumption) ?_
    try simp only [Act.put, List.setIfInBounds_toArray, List.set_cons_zero, List.set_cons_succ]
    refine held_skip 34 rfl (by kernel_rfl) (by kernel_rfl) (by kernel_rfl) (fun _ _ _ h => h) (by rfl) (by assumption) ?_
    try simp only [Act.put, List.setIfInBounds_toArray, List.set_cons_zero, List.set_cons_succ]
    refine held_skip 35 rfl (by kernel_rfl) (by kernel_rfl) (by kernel_rfl) (fun _ _ _ h => h) (by rfl) (by assumption) ?_
    try simp only [Act.put, List.setIfInBounds_toArray, List.set_cons_zero, List.set_cons_succ]
    refine held_skip 36 rfl (by kernel_rfl) (by kernel_rfl) (by kernel_rfl) (fun _ _ _ h => h) (by rfl) (by assumption) ?_
    try simp only [Act.put, List.setIfInBounds_toArray, List.set_cons_zero, List.set_cons_succ]
    refine held_skip 37 rfl (by kernel_rfl) (by kernel_rfl) (by kernel_rfl) (fun _ _ _ h => h) (by rfl) (by assumption) ?_
    try simp only [Act.put, List.setIfInBounds_toArray, List.set_cons_zero, List.set_cons_succ]
    refine held_skip 38 rfl (by kernel_rfl) (by kernel_rfl) (by kernel_rfl) (fun _ _ _ h => h) (by rfl) (by assumption) ?_
    try simp only [Act.put, List.setIfInBounds_toArray, List.set_cons_zero, List.set_cons_succ]
    refine held_skip 39 rfl (by kernel_rfl) (by kernel_rfl) (by kernel_rfl) (fun _ _ _ h => h) (by rfl) (by assumption) ?_
    try simp only [Act.put, List.setIfInBounds_toArray, List.set_cons_zero, List.set_cons_succ]
    refine held_skip 40 rfl (by kernel_rfl) (by kernel_rfl) (by kernel_rfl) (fun _ _ _ h => h) (by rfl) (by assumption) ?_
    try simp only [Act.put, List.setIfInBounds_toArray, List.set_cons_zero, List.set_cons_succ]
    refine held_skip 41 rfl (by kernel_rfl) (by kernel_rfl) (by kernel_rfl) (fun _ _ _ h => h) (by rfl) (by assumption) ?_
    try simp only [Act.put, List.setIfInBounds_toArray, List.set_cons_zero, List.set_cons_succ]
    refine held_skip 42 rfl (by kernel_rfl) (by kernel_rfl) (by kernel_rfl) (fun _ _ _ h => h) (by rfl) (by assumption) ?_
    try simp only [Act.put, List.setIfInBounds_toArray, List.set_cons_zero, List.set_cons_succ]
    refine held_take 43 (.bool false) rfl (by kernel_rfl) (by kernel_rfl) (by kernel_rfl) (fun _ _ _ h => h) (by rfl) (by intro w' hS; go_simp) (by assumption) ?_
    try simp only [Act.put, List.setIfInBounds_toArray, List.set_cons_zero, List.set_cons_succ]
    refine held_take 44 (.bool false) rfl (by kernel_rfl) (by kernel_rfl) (by kernel_rfl) (fun _ _ _ h => h) (by rfl) (by intro w' hS; go_simp) (by assumption) ?_
    try simp only [Act.put, List.setIfInBounds_toArray, List.set_cons_zero, List.set_cons_succ]
    refine wpAnyH_done (by kernel_rfl) ?_ _
    go_wp2_with fail
    go_ret
    exact ⟨ret_bool E.out, z.out.trans (bq2.out.mono z.out.size)⟩
  simp only [b2] at C2
  replace C2 := Lib.hid C2
  cases b3 : rightT x.ss x.cl
  · have E := Lib.hid (fitT_3 (ws := W.ss) (wn := W.cl) (bs := B.ss) (bn := B.cl) b3)
    simp only [b3] at C3
    replace C3 := Lib.hid C3
    clear b1 b2 b3 hW hB hx hWl
    go_enter Try.func11, Try.ntmps11
    go_upto_region 1 with (fail)
    rw [hwA.out]
    have SK := Lib.hid (fun w' (hb : Below wA.heap.size wA w') => (show w'.cell? ⟨w.heap.size, 0, none⟩ = some (.slice W.sa W.sl W.sc) ∧ w'.cell? ⟨w.heap.size, 1, none⟩ = some (.slice W.ca W.cl W.cc) ∧ w'.cell? ⟨w.heap.size, 2, none⟩ = some (.slice B.sa B.sl B.sc) ∧ w'.cell? ⟨w.heap.size, 3, none⟩ = some (.slice B.ca B.cl B.cc) ∧ w'.cell? ⟨w.heap.size, 4, none⟩ = some (.slice x.sa x.sl x.sc) ∧ w'.cell? ⟨w.heap.size, 5, none⟩ = some (.slice x.ca x.cl x.cc) from ⟨(J.out.kept hb).see.1.1, (J.out.kept hb).see.1.2, (J.out.kept hb).see.2.1.1, (J.out.kept hb).see.2.1.2, (J.out.kept hb).see.2.2.1.1, (J.out.kept hb).see.2.2.1.2⟩))
    have t1 := Lib.hid (show Below wA.heap.size wA wA.drew from (Below.refl _ _).drew)
    refine wp_region_held_drew (S := fun w' => w'.cell? ⟨w.heap.size, 0, none⟩ = some (.slice W.sa W.sl W.sc) ∧ w'.cell? ⟨w.heap.size, 1, none⟩ = some (.slice W.ca W.cl W.cc) ∧ w'.cell? ⟨w.heap.size, 2, none⟩ = some (.slice B.sa B.sl B.sc) ∧ w'.cell? ⟨w.heap.size, 3, none⟩ = some (.slice B.ca B.cl B.cc) ∧ w'.cell? ⟨w.heap.size, 4, none⟩ = some (.slice x.sa x.sl x.sc) ∧ w'.cell? ⟨w.heap.size, 5, none⟩ = some (.slice x.ca x.cl x.cc)) (by kernel_rfl) (SK.out _ t1.out) (fun hHeld => ?_)
    refine held_take 0 (.pointer (some ⟨w.heap.size, 0, none⟩)) rfl (by kernel_rfl) (by kernel_rfl) (by kernel_rfl) (fun _ _ _ h => h) (by rfl) (by intro w' hS; go_simp) (by assumption) ?_
    try simp only [Act.put, List.setIfInBounds_toArray, List.set_cons_zero, List.set_cons_succ]
    refine held_take 1 (.agg #[.slice W.sa W.sl W.sc, .slice W.ca W.cl W.cc]) rfl (by kernel_rfl) (by kernel_rfl) (by kernel_rfl) (fun _ _ _ h => h) (by rfl) (by intro w' hS; go_simp) (by assumption) ?_
    try simp only [Act.put, List.setIfInBounds_toArray, List.set_cons_zero, List.set_cons_succ]
    refine held_call 2 (by kernel_rfl) rfl (by rfl) (fun K hK => ?_)
    go_simp
    refine (C1.out wA.drew t1.out).mono ?_
    rintro e wq1 ⟨rfl, hb⟩
    have bq1 := Lib.hid (t1.out.trans ((hb).mono t1.out.size))
    go_wp2_with fail
    refine hK.out _ _ (SK.out _ bq1.out) (fun hHeld => ?_)
    try simp only [Act.put, List.setIfInBounds_toArray, List.set_cons_zero, List.set_cons_succ]
    refine held_take 3 (.bool true) rfl (by kernel_rfl) (by kernel_rfl) (by kernel_rfl) (fun _ _ _ h => h) (by rfl) (by intro w' hS; go_simp) (by assumption) ?_
    try simp only [Act.put, List.setIfInBounds_toArray, List.set_cons_zero, List.set_cons_succ]
    refine held_take 4 (.pointer (some ⟨w.heap.size, 2, none⟩)) rfl (by kernel_rfl) (by kernel_rfl) (by kernel_rfl) (fun _ _ _ h => h) (by rfl) (by intro w' hS; go_simp) (by assumption) ?_
    try simp only [Act.put, List.setIfInBounds_toArray, List.set_cons_zero, List.set_cons_succ]
    refine held_take 5 (.agg #[.slice B.sa B.sl B.sc, .slice B.ca B.cl B.cc]) rfl (by kernel_rfl) (by kernel_rfl) (by kernel_rfl) (fun _ _ _ h => h) (by rfl) (by intro w' hS; go_simp) (by assumption) ?_
    try simp only [Act.put, List.setIfInBounds_toArray, List.set_cons_zero, List.set_cons_succ]
    refine held_call 6 (by kernel_rfl) rfl (by rfl) (fun K hK => ?_)
    go_simp
    refine (C2.out wq1 bq1.out).mono ?_
    rintro e wq2 ⟨rfl, hb⟩
    have bq2 := Lib.hid (bq1.out.trans ((hb).mono bq1.out.size))
    go_wp2_with fail
    refine hK.out _ _ (SK.out _ bq2.out) (fun hHeld => ?_)
    try simp only [Act.put, List.setIfInBounds_toArray, List.set_cons_zero, List.set_cons_succ]
    refine held_take 7 (.bool true) rfl (by kernel_rfl) (by kernel_rfl) (by kernel_rfl) (fun _ _ _ h => h) (by rfl) (by intro w' hS; go_simp) (by assumption) ?_
    try simp only [Act.put, List.setIfInBounds_toArray, List.set_cons_zero, List.set_cons_succ]
    refine held_take 8 (.bool true) rfl (by kernel_rfl) (by kernel_rfl) (by kernel_rfl) (fun _ _ _ h => h) (by rfl) (by intro w' hS; go_simp) (by assumption) ?_
    try simp only [Act.put, List.setIfInBounds_toArray, List.set_cons_zero, List.set_cons_succ]
    refine held_take 9 (.pointer (some ⟨w.heap.size, 4, none⟩)) rfl (by kernel_rfl) (by kernel_rfl) (by kernel_rfl) (fun _ _ _ h => h) (by rfl) (by intro w' hS; go_simp) (by assumption) ?_
    try simp only [Act.put, List.setIfInBounds_toArray, List.set_cons_zero, List.set_cons_succ]
    refine held_take 10 (.agg #[.slice x.sa x.sl x.sc, .slice x.ca x.cl x.cc]) rfl (by kernel_rfl) (by kernel_rfl) (by kernel_rfl) (fun _ _ _ h => h) (by rfl) (by intro w' hS; go_simp) (by assumption) ?_
    try simp only [Act.put, List.setIfInBounds_toArray, List.set_cons_zero, List.set_cons_succ]
    refine held_call 11 (by kernel_rfl) rfl (by rfl) (fun K hK => ?_)
    go_simp
    refine (C3.out wq2 bq2.out).mono ?_
    rintro e wq3 ⟨rfl, hb⟩
    have bq3 := Lib.hid (bq2.out.trans ((hb).mono bq2.out.size))
    go_wp2_with fail
    refine hK.out _ _ (SK.out _ bq3.out) (fun hHeld => ?_)
    try simp only [Act.put, List.setIfInBounds_toArray, List.set_cons_zero, List.set_cons_succ]
    refine held_take 12 (.bool false) rfl (by kernel_rfl) (by kernel_rfl) (by kernel_rfl) (fun _ _ _ h => h) (by rfl) (by intro w' hS; go_simp) (by assumption) ?_
    try simp only [Act.put, List.setIfInBounds_toArray, List.set_cons_zero, List.set_cons_succ]
    refine held_take 13 (.bool false) rfl (by kernel_rfl) (by kernel_rfl) (by kernel_rfl) (fun _ _ _ h => h) (by rfl) (by intro w' hS; go_simp) (by assumption) ?_
    try simp only [Act.put, List.setIfInBounds_toArray, List.set_cons_zero, List.set_cons_succ]
    refine held_skip 14 rfl (by kernel_rfl) (by kernel_rfl) (by kernel_rfl) (fun _ _ _ h => h) (by rfl) (by assumption) ?_
    try simp only [Act.put, List.setIfInBounds_toArray, List.set_cons_zero, List.set_cons_succ]
    refine held_skip 15 rfl (by kernel_rfl) (by kernel_rfl) (by kernel_rfl) (fun _ _ _ h => h) (by rfl) (by assumption) ?_
    try simp only [Act.put, List.setIfInBounds_toArray, List.set_cons_zero, List.set_cons_succ]
    refine held_skip 16 rfl (by kernel_rfl) (by kernel_rfl) (by kernel_rfl) (fun _ _ _ h => h) (by rfl) (by assumption) ?_
    try simp only [Act.put, List.setIfInBounds_toArray, List.set_cons_zero, List.set_cons_succ]
    refine held_skip 17 rfl (by kernel_rfl) (by kernel_rfl) (by kernel_rfl) (fun _ _ _ h => h) (by rfl) (by assumption) ?_
    try simp only [Act.put, List.setIfInBounds_toArray, List.set_cons_zero, List.set_cons_succ]
    refine held_skip 18 rfl (by kernel_rfl) (by kernel_rfl) (by kernel_rfl) (fun _ _ _ h => h) (by rfl) (by assumption) ?_
    try simp only [Act.put, List.setIfInBounds_toArray, List.set_cons_zero, List.set_cons_succ]
    refine held_take 19 (.bool false) rfl (by kernel_rfl) (by kernel_rfl) (by kernel_rfl) (fun _ _ _ h => h) (by rfl) (by intro w' hS; go_simp) (by assumption) ?_
    try simp only [Act.put, List.setIfInBounds_toArray, List.set_cons_zero, List.set_cons_succ]
    refine held_take 20 (.bool false) rfl (by kernel_rfl) (by kernel_rfl) (by kernel_rfl) (fun _ _ _ h => h) (by rfl) (by intro w' hS; go_simp) (by assumption) ?_
    try simp only [Act.put, List.setIfInBounds_toArray, List.set_cons_zero, List.set_cons_succ]
    refine held_skip 21 rfl (by kernel_rfl) (by kernel_rfl) (by kernel_rfl) (fun _ _ _ h => h) (by rfl) (by assumption) ?_
    try simp only [Act.put, List.setIfInBounds_toArray, List.set_cons_zero, List.set_cons_succ]
    refine held_skip 22 rfl (by kernel_rfl) (by kernel_rfl) (by kernel_rfl) (fun _ _ _ h => h) (by rfl) (by assumption) ?_
    try simp only [Act.put, List.setIfInBounds_toArray, List.set_cons_zero, List.set_cons_succ]
    refine held_skip 23 rfl (by kernel_rfl) (by kernel_rfl) (by kernel_rfl) (fun _ _ _ h => h) (by rfl) (by assumption) ?_
    try simp only [Act.put, List.setIfInBounds_toArray, List.set_cons_zero, List.set_cons_succ]
    refine held_skip 24 rfl (by kernel_rfl) (by kernel_rfl) (by kernel_rfl) (fun _ _ _ h => h) (by rfl) (by assumption) ?_
    try simp only [Act.put, List.setIfInBounds_toArray, List.set_cons_zero, List.set_cons_succ]
    refine held_skip 25 rfl (by kernel_rfl) (by kernel_rfl) (by kernel_rfl) (fun _ _ _ h => h) (by rfl) (by assumption) ?_
    try simp only [Act.put, List.setIfInBounds_toArray, List.set_cons_zero, List.set_cons_succ]
    refine held_skip 26 rfl (by kernel_rfl) (by kernel_rfl) (by kernel_rfl) (fun _ _ _ h => h) (by rfl) (by assumption) ?_
    try simp only [Act.put, List.setIfInBounds_toArray, List.set_cons_zero, List.set_cons_succ]
    refine held_skip 27 rfl (by kernel_rfl) (by kernel_rfl) (by kernel_rfl) (fun _ _ _ h => h) (by rfl) (by assumption) ?_
    try simp only [Act.put, List.setIfInBounds_toArray, List.set_cons_zero, List.set_cons_succ]
    refine held_skip 28 rfl (by kernel_rfl) (by kernel_rfl) (by kernel_rfl) (fun _ _ _ h => h) (by rfl) (by assumption) ?_
    try simp only [Act.put, List.setIfInBounds_toArray, List.set_cons_zero, List.set_cons_succ]
    refine held_left 29 (by kernel_rfl) rfl (by rfl) (by assumption) ?_
    try simp only [Act.put, List.setIfInBounds_toArray, List.set_cons_zero, List.set_cons_succ]
    refine held_left 30 (by kernel_rfl) rfl (by rfl) (by assumption) ?_
    try simp only [Act.put, List.setIfInBounds_toArray, List.set_cons_zero, List.set_cons_succ]
    refine held_take 31 (.bool false) rfl (by kernel_rfl) (by kernel_rfl) (by kernel_rfl) (fun _ _ _ h => h) (by rfl) (by intro w' hS; go_simp) (by assumption) ?_
    try simp only [Act.put, List.setIfInBounds_toArray, List.set_cons_zero, List.set_cons_succ]
    refine held_take 32 (.bool false) rfl (by kernel_rfl) (by kernel_rfl) (by kernel_rfl) (fun _ _ _ h => h) (by rfl) (by intro w' hS; go_simp) (by assumption) ?_
    try simp only [Act.put, List.setIfInBounds_toArray, List.set_cons_zero, List.set_cons_succ]
    refine held_skip 33 rfl (by kernel_rfl) (by kernel_rfl) (by kernel_rfl) (fun _ _ _ h => h) (by rfl) (by assumption) ?_
    try simp only [Act.put, List.setIfInBounds_toArray, List.set_cons_zero, List.set_cons_succ]
    refine held_skip 34 rfl (by kernel_rfl) (by kernel_rfl) (by kernel_rfl) (fun _ _ _ h => h) (by rfl) (by assumption) ?_
    try simp only [Act.put, List.setIfInBounds_toArray, List.set_cons_zero, List.set_cons_succ]
    refine held_skip 35 rfl (by kernel_rfl) (by kernel_rfl) (by kernel_rfl) (fun _ _ _ h => h) (by rfl) (by assumption) ?_
    try simp only [Act.put, List.setIfInBounds_toArray, List.set_cons_zero, List.set_cons_succ]
    refine held_skip 36 rfl (by kernel_rfl) (by kernel_rfl) (by kernel_rfl) (fun _ _ _ h => h) (by rfl) (by assumption) ?_
    try simp only [Act.put, List.setIfInBounds_toArray, List.set_cons_zero, List.set_cons_succ]
    refine held_skip 37 rfl (by kernel_rfl) (by kernel_rfl) (by kernel_rfl) (fun _ _ _ h => h) (by rfl) (by assumption) ?_
    try simp only [Act.put, List.setIfInBounds_toArray, List.set_cons_zero, List.set_cons_succ]
    refine held_skip 38 rfl (by kernel_rfl) (by kernel_rfl) (by kernel_rfl) (fun _ _ _ h => h) (by rfl) (by assumption) ?_
    try simp only [Act.put, List.setIfInBounds_toArray, List.set_cons_zero, List.set_cons_succ]
    refine held_skip 39 rfl (by kernel_rfl) (by kernel_rfl) (by kernel_rfl) (fun _ _ _ h => h) (by rfl) (by assumption) ?_
    try simp only [Act.put, List.setIfInBounds_toArray, List.set_cons_zero, List.set_cons_succ]
    refine held_skip 40 rfl (by kernel_rfl) (by kernel_rfl) (by kernel_rfl) (fun _ _ _ h => h) (by rfl) (by assumption) ?_
    try simp only [Act.put, List.setIfInBounds_toArray, List.set_cons_zero, List.set_cons_succ]
    refine held_skip 41 rfl (by kernel_rfl) (by kernel_rfl) (by kernel_rfl) (fun _ _ _ h => h) (by rfl) (by assumption) ?_
    try simp only [Act.put, List.setIfInBounds_toArray, List.set_cons_zero, List.set_cons_succ]
    refine held_skip 42 rfl (by kernel_rfl) (by kernel_rfl) (by kernel_rfl) (fun _ _ _ h => h) (by rfl) (by assumption) ?_
    try simp only [Act.put, List.setIfInBounds_toArray, List.set_cons_zero, List.set_cons_succ]
    refine held_take 43 (.bool false) rfl (by kernel_rfl) (by kernel_rfl) (by kernel_rfl) (fun _ _ _ h => h) (by rfl) (by intro w' hS; go_simp) (by assumption) ?_
    try simp only [Act.put, List.setIfInBounds_toArray, List.set_cons_zero, List.set_cons_succ]
    refine held_take 44 (.bool false) rfl (by kernel_rfl) (by kernel_rfl) (by kernel_rfl) (fun _ _ _ h => h) (by rfl) (by intro w' hS; go_simp) (by assumption) ?_
    try simp only [Act.put, List.setIfInBounds_toArray, List.set_cons_zero, List.set_cons_succ]
    refine wpAnyH_done (by kernel_rfl) ?_ _
    go_wp2_with fail
    go_ret
    exact ⟨ret_bool E.out, z.out.trans (bq3.out.mono z.out.size)⟩
  simp only [b3] at C3
  replace C3 := Lib.hid C3
  by_cases b4 : W.sl = 2
  case neg =>
    have E := Lib.hid (fitT_n4 (ws := W.ss) (wn := W.cl) (bs := B.ss) (bn := B.cl) (xs := x.ss) (xn := x.cl) (by rw [hWl]; exact b4))
    have b4' : ((W.sl : Int) == 2) = false := beq_eq_false_iff_ne.2 (by omega)
    clear b1 b2 b3 b4 hW hB hx hWl
    go_enter Try.func11, Try.ntmps11
    go_upto_region 1 with (fail)
    rw [hwA.out]
    have SK := Lib.hid (fun w' (hb : Below wA.heap.size wA w') => (show w'.cell? ⟨w.heap.size, 0, none⟩ = some (.slice W.sa W.sl W.sc) ∧ w'.cell? ⟨w.heap.size, 1, none⟩ = some (.slice W.ca W.cl W.cc) ∧ w'.cell? ⟨w.heap.size, 2, none⟩ = some (.slice B.sa B.sl B.sc) ∧ w'.cell? ⟨w.heap.size, 3, none⟩ = some (.slice B.ca B.cl B.cc) ∧ w'.cell? ⟨w.heap.size, 4, none⟩ = some (.slice x.sa x.sl x.sc) ∧ w'.cell? ⟨w.heap.size, 5, none⟩ = some (.slice x.ca x.cl x.cc) from ⟨(J.out.kept hb).see.1.1, (J.out.kept hb).see.1.2, (J.out.kept hb).see.2.1.1, (J.out.kept hb).see.2.1.2, (J.out.kept hb).see.2.2.1.1, (J.out.kept hb).see.2.2.1.2⟩))
    have t1 := Lib.hid (show Below wA.heap.size wA wA.drew from (Below.refl _ _).drew)
    refine wp_region_held_drew (S := fun w' => w'.cell? ⟨w.heap.size, 0, none⟩ = some (.slice W.sa W.sl W.sc) ∧ w'.cell? ⟨w.heap.size, 1, none⟩ = some (.slice W.ca W.cl W.cc) ∧ w'.cell? ⟨w.heap.size, 2, none⟩ = some (.slice B.sa B.sl B.sc) ∧ w'.cell? ⟨w.heap.size, 3, none⟩ = some (.slice B.ca B.cl B.cc) ∧ w'.cell? ⟨w.heap.size, 4, none⟩ = some (.slice x.sa x.sl x.sc) ∧ w'.cell? ⟨w.heap.size, 5, none⟩ = some (.slice x.ca x.cl x.cc)) (by kernel_rfl) (SK.out _ t1.out) (fun hHeld => ?_)
    refine held_take 0 (.pointer (some ⟨w.heap.size, 0, none⟩)) rfl (by kernel_rfl) (by kernel_rfl) (by kernel_rfl) (fun _ _ _ h => h) (by rfl) (by intro w' hS; go_simp) (by assumption) ?_
    try simp only [Act.put, List.setIfInBounds_toArray, List.set_cons_zero, List.set_cons_succ]
    refine held_take 1 (.agg #[.slice W.sa W.sl W.sc, .slice W.ca W.cl W.cc]) rfl (by kernel_rfl) (by kernel_rfl) (by kernel_rfl) (fun _ _ _ h => h) (by rfl) (by intro w' hS; go_simp) (by assumption) ?_
    try simp only [Act.put, List.setIfInBounds_toArray, List.set_cons_zero, List.set_cons_succ]
    refine held_call 2 (by kernel_rfl) rfl (by rfl) (fun K hK => ?_)
    go_simp
    refine (C1.out wA.drew t1.out).mono ?_
    rintro e wq1 ⟨rfl, hb⟩
    have bq1 := Lib.hid (t1.out.trans ((hb).mono t1.out.size))
    go_wp2_with fail
    refine hK.out _ _ (SK.out _ bq1.out) (fun hHeld => ?_)
    try simp only [Act.put, List.setIfInBounds_toArray, List.set_cons_zero, List.set_cons_succ]
    refine held_take 3 (.bool true) rfl (by kernel_rfl) (by kernel_rfl) (by kernel_rfl) (fun _ _ _ h => h) (by rfl) (by intro w' hS; go_simp) (by assumption) ?_
    try simp only [Act.put, List.setIfInBounds_toArray, List.set_cons_zero, List.set_cons_succ]
    refine held_take 4 (.pointer (some ⟨w.heap.size, 2, none⟩)) rfl (by kernel_rfl) (by kernel_rfl) (by kernel_rfl) (fun _ _ _ h => h) (by rfl) (by intro w' hS; go_simp) (by assumption) ?_
    try simp only [Act.put, List.setIfInBounds_toArray, List.set_cons_zero, List.set_cons_succ]
    refine held_take 5 (.agg #[.slice B.sa B.sl B.sc, .slice B.ca B.cl B.cc]) rfl (by kernel_rfl) (by kernel_rfl) (by kernel_rfl) (fun _ _ _ h => h) (by rfl) (by intro w' hS; go_simp) (by assumption) ?_
    try simp only [Act.put, List.setIfInBounds_toArray, List.set_cons_zero, List.set_cons_succ]
    refine held_call 6 (by kernel_rfl) rfl (by rfl) (fun K hK => ?_)
    go_simp
    refine (C2.out wq1 bq1.out).mono ?_
    rintro e wq2 ⟨rfl, hb⟩
    have bq2 := Lib.hid (bq1.out.trans ((hb).mono bq1.out.size))
    go_wp2_with fail
    refine hK.out _ _ (SK.out _ bq2.out) (fun hHeld => ?_)
    try simp only [Act.put, List.setIfInBounds_toArray, List.set_cons_zero, List.set_cons_succ]
    refine held_take 7 (.bool true) rfl (by kernel_rfl) (by kernel_rfl) (by kernel_rfl) (fun _ _ _ h => h) (by rfl) (by intro w' hS; go_simp) (by assumption) ?_
    try simp only [Act.put, List.setIfInBounds_toArray, List.set_cons_zero, List.set_cons_succ]
    refine held_take 8 (.bool true) rfl (by kernel_rfl) (by kernel_rfl) (by kernel_rfl) (fun _ _ _ h => h) (by rfl) (by intro w' hS; go_simp) (by assumption) ?_
    try simp only [Act.put, List.setIfInBounds_toArray, List.set_cons_zero, List.set_cons_succ]
    refine held_take 9 (.pointer (some ⟨w.heap.size, 4, none⟩)) rfl (by kernel_rfl) (by kernel_rfl) (by kernel_rfl) (fun _ _ _ h => h) (by rfl) (by intro w' hS; go_simp) (by assumption) ?_
    try simp only [Act.put, List.setIfInBounds_toArray, List.set_cons_zero, List.set_cons_succ]
    refine held_take 10 (.agg #[.slice x.sa x.sl x.sc, .slice x.ca x.cl x.cc]) rfl (by kernel_rfl) (by kernel_rfl) (by kernel_rfl) (fun _ _ _ h => h) (by rfl) (by intro w' hS; go_simp) (by assumption) ?_
    try simp only [Act.put, List.setIfInBounds_toArray, List.set_cons_zero, List.set_cons_succ]
    refine held_call 11 (by kernel_rfl) rfl (by rfl) (fun K hK => ?_)
    go_simp
    refine (C3.out wq2 bq2.out).mono ?_
    rintro e wq3 ⟨rfl, hb⟩
    have bq3 := Lib.hid (bq2.out.trans ((hb).mono bq2.out.size))
    go_wp2_with fail
    refine hK.out _ _ (SK.out _ bq3.out) (fun hHeld => ?_)
    try simp only [Act.put, List.setIfInBounds_toArray, List.set_cons_zero, List.set_cons_succ]
    refine held_take 12 (.bool true) rfl (by kernel_rfl) (by kernel_rfl) (by kernel_rfl) (fun _ _ _ h => h) (by rfl) (by intro w' hS; go_simp) (by assumption) ?_
    try simp only [Act.put, List.setIfInBounds_toArray, List.set_cons_zero, List.set_cons_succ]
    refine held_take 13 (.bool true) rfl (by kernel_rfl) (by kernel_rfl) (by kernel_rfl) (fun _ _ _ h => h) (by rfl) (by intro w' hS; go_simp) (by assumption) ?_
    try simp only [Act.put, List.setIfInBounds_toArray, List.set_cons_zero, List.set_cons_succ]
    refine held_take 14 (.pointer (some ⟨w.heap.size, 0, none⟩)) rfl (by kernel_rfl) (by kernel_rfl) (by kernel_rfl) (fun _ _ _ h => h) (by rfl) (by intro w' hS; go_simp) (by assumption) ?_
    try simp only [Act.put, List.setIfInBounds_toArray, List.set_cons_zero, List.set_cons_succ]
    refine held_take 15 (.pointer (some ⟨w.heap.size, 0, none⟩)) rfl (by kernel_rfl) (by kernel_rfl) (by kernel_rfl) (fun _ _ _ h => h) (by rfl) (by intro w' hS; go_simp) (by assumption) ?_
    try simp only [Act.put, List.setIfInBounds_toArray, List.set_cons_zero, List.set_cons_succ]
    refine held_take 16 (.slice W.sa W.sl W.sc) rfl (by kernel_rfl) (by kernel_rfl) (by kernel_rfl) (fun _ _ _ h => h) (by rfl) (by intro w' hS; go_simp) (by assumption) ?_
    try simp only [Act.put, List.setIfInBounds_toArray, List.set_cons_zero, List.set_cons_succ]
    refine held_take 17 (.int .i64 W.sl) rfl (by kernel_rfl) (by kernel_rfl) (by kernel_rfl) (fun _ _ _ h => h) (by rfl) (by intro w' hS; go_simp) (by assumption) ?_
    try simp only [Act.put, List.setIfInBounds_toArray, List.set_cons_zero, List.set_cons_succ]
    refine held_take 18 (.bool false) rfl (by kernel_rfl) (by kernel_rfl) (by kernel_rfl) (fun _ _ _ h => h) (by rfl) (by intro w' hS; go_simp) (by assumption) ?_
    try simp only [Act.put, List.setIfInBounds_toArray, List.set_cons_zero, List.set_cons_succ]
    refine held_take 19 (.bool false) rfl (by kernel_rfl) (by kernel_rfl) (by kernel_rfl) (fun _ _ _ h => h) (by rfl) (by intro w' hS; go_simp) (by assumption) ?_
    try simp only [Act.put, List.setIfInBounds_toArray, List.set_cons_zero, List.set_cons_succ]
    refine held_take 20 (.bool false) rfl (by kernel_rfl) (by kernel_rfl) (by kernel_rfl) (fun _ _ _ h => h) (by rfl) (by intro w' hS; go_simp) (by assumption) ?_
    try simp only [Act.put, List.setIfInBounds_toArray, List.set_cons_zero, List.set_cons_succ]
    refine held_skip 21 rfl (by kernel_rfl) (by kernel_rfl) (by kernel_rfl) (fun _ _ _ h => h) (by rfl) (by assumption) ?_
    try simp only [Act.put, List.setIfInBounds_toArray, List.set_cons_zero, List.set_cons_succ]
    refine held_skip 22 rfl (by kernel_rfl) (by kernel_rfl) (by kernel_rfl) (fun _ _ _ h => h) (by rfl) (by assumption) ?_
    try simp only [Act.put, List.setIfInBounds_toArray, List.set_cons_zero, List.set_cons_succ]
    refine held_skip 23 rfl (by kernel_rfl) (by kernel_rfl) (by kernel_rfl) (fun _ _ _ h => h) (by rfl) (by assumption) ?_
    try simp only [Act.put, List.setIfInBounds_toArray, List.set_cons_zero, List.set_cons_succ]
    refine held_skip 24 rfl (by kernel_rfl) (by kernel_rfl) (by kernel_rfl) (fun _ _ _ h => h) (by rfl) (by assumption) ?_
    try simp only [Act.put, List.setIfInBounds_toArray, List.set_cons_zero, List.set_cons_succ]
    refine held_skip 25 rfl (by kernel_rfl) (by kernel_rfl) (by kernel_rfl) (fun _ _ _ h => h) (by rfl) (by assumption) ?_
    try simp only [Act.put, List.setIfInBounds_toArray, List.set_cons_zero, List.set_cons_succ]
    refine held_skip 26 rfl (by kernel_rfl) (by kernel_rfl) (by kernel_rfl) (fun _ _ _ h => h) (by rfl) (by assumption) ?_
    try simp only [Act.put, List.setIfInBounds_toArray, List.set_cons_zero, List.set_cons_succ]
    refine held_skip 27 rfl (by kernel_rfl) (by kernel_rfl) (by kernel_rfl) (fun _ _ _ h => h) (by rfl) (by assumption) ?_
    try simp only [Act.put, List.setIfInBounds_toArray, List.set_cons_zero, List.set_cons_succ]
    refine held_skip 28 rfl (by kernel_rfl) (by kernel_rfl) (by kernel_rfl) (fun _ _ _ h => h) (by rfl) (by assumption) ?_
    try simp only [Act.put, List.setIfInBounds_toArray, List.set_cons_zero, List.set_cons_succ]
    refine held_left 29 (by kernel_rfl) rfl (by rfl) (by assumption) ?_
    try simp only [Act.put, List.setIfInBounds_toArray, List.set_cons_zero, List.set_cons_succ]
    refine held_left 30 (by kernel_rfl) rfl (by rfl) (by assumption) ?_
    try simp only [Act.put, List.setIfInBounds_toArray, List.set_cons_zero, List.set_cons_succ]
    refine held_take 31 (.bool false) rfl (by kernel_rfl) (by kernel_rfl) (by kernel_rfl) (fun _ _ _ h => h) (by rfl) (by intro w' hS; go_simp) (by assumption) ?_
    try simp only [Act.put, List.setIfInBounds_toArray, List.set_cons_zero, List.set_cons_succ]
    refine held_take 32 (.bool false) rfl (by kernel_rfl) (by kernel_rfl) (by kernel_rfl) (fun _ _ _ h => h) (by rfl) (by intro w' hS; go_simp) (by assumption) ?_
    try simp only [Act.put, List.setIfInBounds_toArray, List.set_cons_zero, List.set_cons_succ]
    refine held_skip 33 rfl (by kernel_rfl) (by kernel_rfl) (by kernel_rfl) (fun _ _ _ h => h) (by rfl) (by assumption) ?_
    try simp only [Act.put, List.setIfInBounds_toArray, List.set_cons_zero, List.set_cons_succ]
    refine held_skip 34 rfl (by kernel_rfl) (by kernel_rfl) (by kernel_rfl) (fun _ _ _ h => h) (by rfl) (by assumption) ?_
    try simp only [Act.put, List.setIfInBounds_toArray, List.set_cons_zero, List.set_cons_succ]
    refine held_skip 35 rfl (by kernel_rfl) (by kernel_rfl) (by kernel_rfl) (fun _ _ _ h => h) (by rfl) (by assumption) ?_
    try simp only [Act.put, List.setIfInBounds_toArray, List.set_cons_zero, List.set_cons_succ]
    refine held_skip 36 rfl (by kernel_rfl) (by kernel_rfl) (by kernel_rfl) (fun _ _ _ h => h) (by rfl) (by assumption) ?_
    try simp only [Act.put, List.setIfInBounds_toArray, List.set_cons_zero, List.set_cons_succ]
    refine held_skip 37 rfl (by kernel_rfl) (by kernel_rfl) (by kernel_rfl) (fun _ _ _ h => h) (by rfl) (by assumption) ?_
    try simp only [Act.put, List.setIfInBounds_toArray, List.set_cons_zero, List.set_cons_succ]
    refine held_skip 38 rfl (by kernel_rfl) (by kernel_rfl) (by kernel_rfl) (fun _ _ _ h => h) (by rfl) (by assumption) ?_
    try simp only [Act.put, List.setIfInBounds_toArray, List.set_cons_zero, List.set_cons_succ]
    refine held_skip 39 rfl (by kernel_rfl) (by kernel_rfl) (by kernel_rfl) (fun _ _ _ h => h) (by rfl) (by assumption) ?_
    try simp only [Act.put, List.setIfInBounds_toArray, List.set_cons_zero, List.set_cons_succ]
    refine held_skip 40 rfl (by kernel_rfl) (by kernel_rfl) (by kernel_rfl) (fun _ _ _ h => h) (by rfl) (by assumption) ?_
    try simp only [Act.put, List.setIfInBounds_toArray, List.set_cons_zero, List.set_cons_succ]
    refine held_skip 41 rfl (by kernel_rfl) (by kernel_rfl) (by kernel_rfl) (fun _ _ _ h => h) (by rfl) (by assumption) ?_
    try simp only [Act.put, List.setIfInBounds_toArray, List.set_cons_zero, List.set_cons_succ]
    refine held_skip 42 rfl (by kernel_rfl) (by kernel_rfl) (by kernel_rfl) (fun _ _ _ h => h) (by rfl) (by assumption) ?_
    try simp only [Act.put, List.setIfInBounds_toArray, List.set_cons_zero, List.set_cons_succ]
    refine held_take 43 (.bool false) rfl (by kernel_rfl) (by kernel_rfl) (by kernel_rfl) (fun _ _ _ h => h) (by rfl) (by intro w' hS; go_simp) (by assumption) ?_
    try simp only [Act.put, List.setIfInBounds_toArray, List.set_cons_zero, List.set_cons_succ]
    refine held_take 44 (.bool false) rfl (by kernel_rfl) (by kernel_rfl) (by kernel_rfl) (fun _ _ _ h => h) (by rfl) (by intro w' hS; go_simp) (by assumption) ?_
    try simp only [Act.put, List.setIfInBounds_toArray, List.set_cons_zero, List.set_cons_succ]
    refine wpAnyH_done (by kernel_rfl) ?_ _
    go_wp2_with fail
    go_ret
    exact ⟨ret_bool E.out, z.out.trans (bq3.out.mono z.out.size)⟩
  obtain ⟨b, off, hba, hb0, hb1⟩ : ∃ b off, W.sa = some ⟨b, off, none⟩ ∧ w.cell? ⟨b, off, none⟩ = some (.int .i64 (W.ss.getD 0 0)) ∧ w.cell? ⟨b, off + 1, none⟩ = some (.int .i64 (W.ss.getD 1 0)) := by
    rcases hW.1.2.2.2 with h4 | ⟨b, off, ha, hc⟩
    · omega
    · exact ⟨b, off, ha, by have := hc 0 (by omega); simpa using this, hc 1 (by omega)⟩
  have F0 := fun w1 (hb : Below wA.heap.size wA w1) => cell_later hb (cell_later z.out hb0)
  have F1 := fun w1 (hb : Below wA.heap.size wA w1) => cell_later hb (cell_later z.out hb1)
  have hfm := hW.1.2.2.1.getD 0
  have E5 := Lib.hid (fun h => fitT_n5 (ws := W.ss) (wn := W.cl) (bs := B.ss) (bn := B.cl) (xs := x.ss) (xn := x.cl) h)
  have EY := Lib.hid (fun h => fitT_y (xs := x.ss) (xn := x.cl) b1 b2 b3 (hWl.trans b4) h)
  have C4 := fun w1 (hb : Below wA.heap.size wA w1) (p : Addr) (hp : IntsAt w1 (some p) 1 [W.ss.getD 0 0]) => same_any B.sa B.sl B.sc B.ss (some p) 1 1 [W.ss.getD 0 0] w1 ((hB.1.kept z.out).kept hb) hp
  rw [hba, b4] at hwA J C1 ⊢
  obtain ⟨m, hm⟩ : ∃ m, W.ss.getD 0 0 = m := ⟨_, rfl⟩
  obtain ⟨n, hn⟩ : ∃ n, W.ss.getD 1 0 = n := ⟨_, rfl⟩
  rw [hm] at hfm E5 EY
  rw [hn] at EY
  simp only [hm] at F0 C4
  simp only [hn] at F1
  replace F0 := Lib.hid F0
  replace F1 := Lib.hid F1
  have hfm' : Hid (Fits [m]) := Lib.hid (by intro n hn; rw [List.mem_singleton] at hn; subst hn; exact hfm)
  clear hfm hm hn hb0 hb1 hba b1 b2 b3 b4 hW hB hx hWl
  cases b5 : sameL B.ss [m]
  · have E := Lib.hid (E5.out b5)
    simp only [b5] at C4
    replace C4 := Lib.hid C4
    clear b5 E5 EY
    go_enter Try.func11, Try.ntmps11
    go_upto_region 1 with (fail)
    rw [hwA.out]
    have SK := Lib.hid (fun w' (hb : Below wA.heap.size wA w') => (show w'.cell? ⟨w.heap.size, 0, none⟩ = some (.slice (some ⟨b, off, none⟩) 2 W.sc) ∧ w'.cell? ⟨w.heap.size, 1, none⟩ = some (.slice W.ca W.cl W.cc) ∧ w'.cell? ⟨w.heap.size, 2, none⟩ = some (.slice B.sa B.sl B.sc) ∧ w'.cell? ⟨w.heap.size, 3, none⟩ = some (.slice B.ca B.cl B.cc) ∧ w'.cell? ⟨w.heap.size, 4, none⟩ = some (.slice x.sa x.sl x.sc) ∧ w'.cell? ⟨w.heap.size, 5, none⟩ = some (.slice x.ca x.cl x.cc) ∧ w'.cell? ⟨b, off, none⟩ = some (.int .i64 m) from ⟨(J.out.kept hb).see.1.1, (J.out.kept hb).see.1.2, (J.out.kept hb).see.2.1.1, (J.out.kept hb).see.2.1.2, (J.out.kept hb).see.2.2.1.1, (J.out.kept hb).see.2.2.1.2, F0.out w' hb⟩))
    have t1 := Lib.hid (show Below wA.heap.size wA wA.drew from (Below.refl _ _).drew)
    refine wp_region_held_drew (S := fun w' => w'.cell? ⟨w.heap.size, 0, none⟩ = some (.slice (some ⟨b, off, none⟩) 2 W.sc) ∧ w'.cell? ⟨w.heap.size, 1, none⟩ = some (.slice W.ca W.cl W.cc) ∧ w'.cell? ⟨w.heap.size, 2, none⟩ = some (.slice B.sa B.sl B.sc) ∧ w'.cell? ⟨w.heap.size, 3, none⟩ = some (.slice B.ca B.cl B.cc) ∧ w'.cell? ⟨w.heap.size, 4, none⟩ = some (.slice x.sa x.sl x.sc) ∧ w'.cell? ⟨w.heap.size, 5, none⟩ = some (.slice x.ca x.cl x.cc) ∧ w'.cell? ⟨b, off, none⟩ = some (.int .i64 m)) (by kernel_rfl) (SK.out _ t1.out) (fun hHeld => ?_)
    refine held_take 0 (.pointer (some ⟨w.heap.size, 0, none⟩)) rfl (by kernel_rfl) (by kernel_rfl) (by kernel_rfl) (fun _ _ _ h => h) (by rfl) (by intro w' hS; go_simp) (by assumption) ?_
    try simp only [Act.put, List.setIfInBounds_toArray, List.set_cons_zero, List.set_cons_succ]
    refine held_take 1 (.agg #[.slice (some ⟨b, off, none⟩) 2 W.sc, .slice W.ca W.cl W.cc]) rfl (by kernel_rfl) (by kernel_rfl) (by kernel_rfl) (fun _ _ _ h => h) (by rfl) (by intro w' hS; go_simp) (by assumption) ?_
    try simp only [Act.put, List.setIfInBounds_toArray, List.set_cons_zero, List.set_cons_succ]
    refine held_call 2 (by kernel_rfl) rfl (by rfl) (fun K hK => ?_)
    go_simp
    refine (C1.out wA.drew t1.out).mono ?_
    rintro e wq1 ⟨rfl, hb⟩
    have bq1 := Lib.hid (t1.out.trans ((hb).mono t1.out.size))
    go_wp2_with fail
    refine hK.out _ _ (SK.out _ bq1.out) (fun hHeld => ?_)
    try simp only [Act.put, List.setIfInBounds_toArray, List.set_cons_zero, List.set_cons_succ]
    refine held_take 3 (.bool true) rfl (by kernel_rfl) (by kernel_rfl) (by kernel_rfl) (fun _ _ _ h => h) (by rfl) (by intro w' hS; go_simp) (by assumption) ?_
    try simp only [Act.put, List.setIfInBounds_toArray, List.set_cons_zero, List.set_cons_succ]
    refine held_take 4 (.pointer (some ⟨w.heap.size, 2, none⟩)) rfl (by kernel_rfl) (by kernel_rfl) (by kernel_rfl) (fun _ _ _ h => h) (by rfl) (by intro w' hS; go_simp) (by assumption) ?_
    try simp only [Act.put, List.setIfInBounds_toArray, List.set_cons_zero, List.set_cons_succ]
    refine held_take 5 (.agg #[.slice B.sa B.sl B.sc, .slice B.ca B.cl B.cc]) rfl (by kernel_rfl) (by kernel_rfl) (by kernel_rfl) (fun _ _ _ h => h) (by rfl) (by intro w' hS; go_simp) (by assumption) ?_
    try simp only [Act.put, List.setIfInBounds_toArray, List.set_cons_zero, List.set_cons_succ]
    refine held_call 6 (by kernel_rfl) rfl (by rfl) (fun K hK => ?_)
    go_simp
    refine (C2.out wq1 bq1.out).mono ?_
    rintro e wq2 ⟨rfl, hb⟩
    have bq2 := Lib.hid (bq1.out.trans ((hb).mono bq1.out.size))
    go_wp2_with fail
    refine hK.out _ _ (SK.out _ bq2.out) (fun hHeld => ?_)
    try simp only [Act.put, List.setIfInBounds_toArray, List.set_cons_zero, List.set_cons_succ]
    refine held_take 7 (.bool true) rfl (by kernel_rfl) (by kernel_rfl) (by kernel_rfl) (fun _ _ _ h => h) (by rfl) (by intro w' hS; go_simp) (by assumption) ?_
    try simp only [Act.put, List.setIfInBounds_toArray, List.set_cons_zero, List.set_cons_succ]
    refine held_take 8 (.bool true) rfl (by kernel_rfl) (by kernel_rfl) (by kernel_rfl) (fun _ _ _ h => h) (by rfl) (by intro w' hS; go_simp) (by assumption) ?_
    try simp only [Act.put, List.setIfInBounds_toArray, List.set_cons_zero, List.set_cons_succ]
    refine held_take 9 (.pointer (some ⟨w.heap.size, 4, none⟩)) rfl (by kernel_rfl) (by kernel_rfl) (by kernel_rfl) (fun _ _ _ h => h) (by rfl) (by intro w' hS; go_simp) (by assumption) ?_
    try simp only [Act.put, List.setIfInBounds_toArray, List.set_cons_zero, List.set_cons_succ]
    refine held_take 10 (.agg #[.slice x.sa x.sl x.sc, .slice x.ca x.cl x.cc]) rfl (by kernel_rfl) (by kernel_rfl) (by kernel_rfl) (fun _ _ _ h => h) (by rfl) (by intro w' hS; go_simp) (by assumption) ?_
    try simp only [Act.put, List.setIfInBounds_toArray, List.set_cons_zero, List.set_cons_succ]
    refine held_call 11 (by kernel_rfl) rfl (by rfl) (fun K hK => ?_)
    go_simp
    refine (C3.out wq2 bq2.out).mono ?_
    rintro e wq3 ⟨rfl, hb⟩
    have bq3 := Lib.hid (bq2.out.trans ((hb).mono bq2.out.size))
    go_wp2_with fail
    refine hK.out _ _ (SK.out _ bq3.out) (fun hHeld => ?_)
    try simp only [Act.put, List.setIfInBounds_toArray, List.set_cons_zero, List.set_cons_succ]
    refine held_take 12 (.bool true) rfl (by kernel_rfl) (by kernel_rfl) (by kernel_rfl) (fun _ _ _ h => h) (by rfl) (by intro w' hS; go_simp) (by assumption) ?_
    try simp only [Act.put, List.setIfInBounds_toArray, List.set_cons_zero, List.set_cons_succ]
    refine held_take 13 (.bool true) rfl (by kernel_rfl) (by kernel_rfl) (by kernel_rfl) (fun _ _ _ h => h) (by rfl) (by intro w' hS; go_simp) (by assumption) ?_
    try simp only [Act.put, List.setIfInBounds_toArray, List.set_cons_zero, List.set_cons_succ]
    refine held_take 14 (.pointer (some ⟨w.heap.size, 0, none⟩)) rfl (by kernel_rfl) (by kernel_rfl) (by kernel_rfl) (fun _ _ _ h => h) (by rfl) (by intro w' hS; go_simp) (by assumption) ?_
    try simp only [Act.put, List.setIfInBounds_toArray, List.set_cons_zero, List.set_cons_succ]
    refine held_take 15 (.pointer (some ⟨w.heap.size, 0, none⟩)) rfl (by kernel_rfl) (by kernel_rfl) (by kernel_rfl) (fun _ _ _ h => h) (by rfl) (by intro w' hS; go_simp) (by assumption) ?_
    try simp only [Act.put, List.setIfInBounds_toArray, List.set_cons_zero, List.set_cons_succ]
    refine held_take 16 (.slice (some ⟨b, off, none⟩) 2 W.sc) rfl (by kernel_rfl) (by kernel_rfl) (by kernel_rfl) (fun _ _ _ h => h) (by rfl) (by intro w' hS; go_simp) (by assumption) ?_
    try simp only [Act.put, List.setIfInBounds_toArray, List.set_cons_zero, List.set_cons_succ]
    refine held_take 17 (.int .i64 2) rfl (by kernel_rfl) (by kernel_rfl) (by kernel_rfl) (fun _ _ _ h => h) (by rfl) (by intro w' hS; go_simp) (by assumption) ?_
    try simp only [Act.put, List.setIfInBounds_toArray, List.set_cons_zero, List.set_cons_succ]
    refine held_take 18 (.bool true) rfl (by kernel_rfl) (by kernel_rfl) (by kernel_rfl) (fun _ _ _ h => h) (by rfl) (by intro w' hS; go_simp) (by assumption) ?_
    try simp only [Act.put, List.setIfInBounds_toArray, List.set_cons_zero, List.set_cons_succ]
    refine held_take 19 (.bool true) rfl (by kernel_rfl) (by kernel_rfl) (by kernel_rfl) (fun _ _ _ h => h) (by rfl) (by intro w' hS; go_simp) (by assumption) ?_
    try simp only [Act.put, List.setIfInBounds_toArray, List.set_cons_zero, List.set_cons_succ]
    refine held_take 20 (.bool true) rfl (by kernel_rfl) (by kernel_rfl) (by kernel_rfl) (fun _ _ _ h => h) (by rfl) (by intro w' hS; go_simp) (by assumption) ?_
    try simp only [Act.put, List.setIfInBounds_toArray, List.set_cons_zero, List.set_cons_succ]
    refine held_take 21 (.pointer (some ⟨w.heap.size, 2, none⟩)) rfl (by kernel_rfl) (by kernel_rfl) (by kernel_rfl) (fun _ _ _ h => h) (by rfl) (by intro w' hS; go_simp) (by assumption) ?_
    try simp only [Act.put, List.setIfInBounds_toArray, List.set_cons_zero, List.set_cons_succ]
    refine held_take 22 (.pointer (some ⟨w.heap.size, 2, none⟩)) rfl (by kernel_rfl) (by kernel_rfl) (by kernel_rfl) (fun _ _ _ h => h) (by rfl) (by intro w' hS; go_simp) (by assumption) ?_
    try simp only [Act.put, List.setIfInBounds_toArray, List.set_cons_zero, List.set_cons_succ]
    refine held_take 23 (.slice B.sa B.sl B.sc) rfl (by kernel_rfl) (by kernel_rfl) (by kernel_rfl) (fun _ _ _ h => h) (by rfl) (by intro w' hS; go_simp) (by assumption) ?_
    try simp only [Act.put, List.setIfInBounds_toArray, List.set_cons_zero, List.set_cons_succ]
    refine held_take 24 (.pointer (some ⟨w.heap.size, 0, none⟩)) rfl (by kernel_rfl) (by kernel_rfl) (by kernel_rfl) (fun _ _ _ h => h) (by rfl) (by intro w' hS; go_simp) (by assumption) ?_
    try simp only [Act.put, List.setIfInBounds_toArray, List.set_cons_zero, List.set_cons_succ]
    refine held_take 25 (.pointer (some ⟨w.heap.size, 0, none⟩)) rfl (by kernel_rfl) (by kernel_rfl) (by kernel_rfl) (fun _ _ _ h => h) (by rfl) (by intro w' hS; go_simp) (by assumption) ?_
    try simp only [Act.put, List.setIfInBounds_toArray, List.set_cons_zero, List.set_cons_succ]
    refine held_take 26 (.slice (some ⟨b, off, none⟩) 2 W.sc) rfl (by kernel_rfl) (by kernel_rfl) (by kernel_rfl) (fun _ _ _ h => h) (by rfl) (by intro w' hS; go_simp) (by assumption) ?_
    try simp only [Act.put, List.setIfInBounds_toArray, List.set_cons_zero, List.set_cons_succ]
    refine held_take 27 (.pointer (some ⟨b, off, none⟩)) rfl (by kernel_rfl) (by kernel_rfl) (by kernel_rfl) (fun _ _ _ h => h) (by rfl) (by intro w' hS; go_simp) (by assumption) ?_
    try simp only [Act.put, List.setIfInBounds_toArray, List.set_cons_zero, List.set_cons_succ]
    refine held_take 28 (.int .i64 m) rfl (by kernel_rfl) (by kernel_rfl) (by kernel_rfl) (fun _ _ _ h => h) (by rfl) (by intro w' hS; go_simp) (by assumption) ?_
    try simp only [Act.put, List.setIfInBounds_toArray, List.set_cons_zero, List.set_cons_succ]
    refine held_call 29 (by kernel_rfl) rfl (by rfl) (fun K hK => ?_)
    go_simp
    have hone := Lib.hid (IntsAt.made wq3 3 [m] 1 rfl (by omega) hfm'.out)
    have hb : Below wq3.heap.size wq3 (wq3.alloc (.cells ([m].map (Value.int .i64)).toArray 3)) := (Below.refl _ _).alloc (Nat.le_refl _) _
    simp only [List.map_cons, List.map_nil] at hone hb
    obtain ⟨wq4, hnew⟩ : ∃ wn, wq3.alloc (.cells [Value.int .i64 m].toArray 3) = wn := ⟨_, rfl⟩
    rw [hnew] at hone hb ⊢
    clear hnew
    have bq4 := Lib.hid (bq3.out.trans (hb.mono bq3.out.size))
    refine hK.out _ _ (SK.out _ bq4.out) (fun hHeld => ?_)
    try simp only [Act.put, List.setIfInBounds_toArray, List.set_cons_zero, List.set_cons_succ]
    refine held_call 30 (by kernel_rfl) rfl (by rfl) (fun K hK => ?_)
    go_simp
    refine (C4.out wq4 bq4.out _ hone.out).mono ?_
    rintro e _ ⟨rfl, nq, rfl⟩
    have bq5 := Lib.hid (bq4.out.trans ((below_drewN' (Below.refl _ _) nq).mono bq4.out.size))
    go_wp2_with fail
    refine hK.out _ _ (SK.out _ bq5.out) (fun hHeld => ?_)
    try simp only [Act.put, List.setIfInBounds_toArray, List.set_cons_zero, List.set_cons_succ]
    refine held_take 31 (.bool false) rfl (by kernel_rfl) (by kernel_rfl) (by kernel_rfl) (fun _ _ _ h => h) (by rfl) (by intro w' hS; go_simp) (by assumption) ?_
    try simp only [Act.put, List.setIfInBounds_toArray, List.set_cons_zero, List.set_cons_succ]
    refine held_take 32 (.bool false) rfl (by kernel_rfl) (by kernel_rfl) (by kernel_rfl) (fun _ _ _ h => h) (by rfl) (by intro w' hS; go_simp) (by assumption) ?_
    try simp only [Act.put, List.setIfInBounds_toArray, List.set_cons_zero, List.set_cons_succ]
    refine held_skip 33 rfl (by kernel_rfl) (by kernel_rfl) (by kernel_rfl) (fun _ _ _ h => h) (by rfl) (by assumption) ?_
    try simp only [Act.put, List.setIfInBounds_toArray, List.set_cons_zero, List.set_cons_succ]
    refine held_skip 34 rfl (by kernel_rfl) (by kernel_rfl) (by kernel_rfl) (fun _ _ _ h => h) (by rfl) (by assumption) ?_
    try simp only [Act.put, List.setIfInBounds_toArray, List.set_cons_zero, List.set_cons_succ]
    refine held_skip 35 rfl (by kernel_rfl) (by kernel_rfl) (by kernel_rfl) (fun _ _ _ h => h) (by rfl) (by assumption) ?_
    try simp only [Act.put, List.setIfInBounds_toArray, List.set_cons_zero, List.set_cons_succ]
    refine held_skip 36 rfl (by kernel_rfl) (by kernel_rfl) (by kernel_rfl) (fun _ _ _ h => h) (by rfl) (by assumption) ?_
    try simp only [Act.put, List.setIfInBounds_toArray, List.set_cons_zero, List.set_cons_succ]
    refine held_skip 37 rfl (by kernel_rfl) (by kernel_rfl) (by kernel_rfl) (fun _ _ _ h => h) (by rfl) (by assumption) ?_
    try simp only [Act.put, List.setIfInBounds_toArray, List.set_cons_zero, List.set_cons_succ]
    refine held_skip 38 rfl (by kernel_rfl) (by kernel_rfl) (by kernel_rfl) (fun _ _ _ h => h) (by rfl) (by assumption) ?_
    try simp only [Act.put, List.setIfInBounds_toArray, List.set_cons_zero, List.set_cons_succ]
    refine held_skip 39 rfl (by kernel_rfl) (by kernel_rfl) (by kernel_rfl) (fun _ _ _ h => h) (by rfl) (by assumption) ?_
    try simp only [Act.put, List.setIfInBounds_toArray, List.set_cons_zero, List.set_cons_succ]
    refine held_skip 40 rfl (by kernel_rfl) (by kernel_rfl) (by kernel_rfl) (fun _ _ _ h => h) (by rfl) (by assumption) ?_
    try simp only [Act.put, List.setIfInBounds_toArray, List.set_cons_zero, List.set_cons_succ]
    refine held_skip 41 rfl (by kernel_rfl) (by kernel_rfl) (by kernel_rfl) (fun _ _ _ h => h) (by rfl) (by assumption) ?_
    try simp only [Act.put, List.setIfInBounds_toArray, List.set_cons_zero, List.set_cons_succ]
    refine held_skip 42 rfl (by kernel_rfl) (by kernel_rfl) (by kernel_rfl) (fun _ _ _ h => h) (by rfl) (by assumption) ?_
    try simp only [Act.put, List.setIfInBounds_toArray, List.set_cons_zero, List.set_cons_succ]
    refine held_take 43 (.bool false) rfl (by kernel_rfl) (by kernel_rfl) (by kernel_rfl) (fun _ _ _ h => h) (by rfl) (by intro w' hS; go_simp) (by assumption) ?_
    try simp only [Act.put, List.setIfInBounds_toArray, List.set_cons_zero, List.set_cons_succ]
    refine held_take 44 (.bool false) rfl (by kernel_rfl) (by kernel_rfl) (by kernel_rfl) (fun _ _ _ h => h) (by rfl) (by intro w' hS; go_simp) (by assumption) ?_
    try simp only [Act.put, List.setIfInBounds_toArray, List.set_cons_zero, List.set_cons_succ]
    refine wpAnyH_done (by kernel_rfl) ?_ _
    go_wp2_with fail
    go_ret
    exact ⟨ret_bool E.out, z.out.trans (bq5.out.mono z.out.size)⟩
  have E := Lib.hid (EY.out b5)
  simp only [b5] at C4
  replace C4 := Lib.hid C4
  clear b5 E5 EY
  go_enter Try.func11, Try.ntmps11
  go_upto_region 1 with (fail)
  rw [hwA.out]
  have SK := Lib.hid (fun w' (hb : Below wA.heap.size wA w') => (show w'.cell? ⟨w.heap.size, 0, none⟩ = some (.slice (some ⟨b, off, none⟩) 2 W.sc) ∧ w'.cell? ⟨w.heap.size, 1, none⟩ = some (.slice W.ca W.cl W.cc) ∧ w'.cell? ⟨w.heap.size, 2, none⟩ = some (.slice B.sa B.sl B.sc) ∧ w'.cell? ⟨w.heap.size, 3, none⟩ = some (.slice B.ca B.cl B.cc) ∧ w'.cell? ⟨w.heap.size, 4, none⟩ = some (.slice x.sa x.sl x.sc) ∧ w'.cell? ⟨w.heap.size, 5, none⟩ = some (.slice x.ca x.cl x.cc) ∧ w'.cell? ⟨b, off, none⟩ = some (.int .i64 m) ∧ w'.cell? ⟨b, off + 1, none⟩ = some (.int .i64 n) from ⟨(J.out.kept hb).see.1.1, (J.out.kept hb).see.1.2, (J.out.kept hb).see.2.1.1, (J.out.kept hb).see.2.1.2, (J.out.kept hb).see.2.2.1.1, (J.out.kept hb).see.2.2.1.2, F0.out w' hb, F1.out w' hb⟩))
  have t1 := Lib.hid (show Below wA.heap.size wA wA.drew from (Below.refl _ _).drew)
  refine wp_region_held_drew (S := fun w' => w'.cell? ⟨w.heap.size, 0, none⟩ = some (.slice (some ⟨b, off, none⟩) 2 W.sc) ∧ w'.cell? ⟨w.heap.size, 1, none⟩ = some (.slice W.ca W.cl W.cc) ∧ w'.cell? ⟨w.heap.size, 2, none⟩ = some (.slice B.sa B.sl B.sc) ∧ w'.cell? ⟨w.heap.size, 3, none⟩ = some (.slice B.ca B.cl B.cc) ∧ w'.cell? ⟨w.heap.size, 4, none⟩ = some (.slice x.sa x.sl x.sc) ∧ w'.cell? ⟨w.heap.size, 5, none⟩ = some (.slice x.ca x.cl x.cc) ∧ w'.cell? ⟨b, off, none⟩ = some (.int .i64 m) ∧ w'.cell? ⟨b, off + 1, none⟩ = some (.int .i64 n)) (by kernel_rfl) (SK.out _ t1.out) (fun hHeld => ?_)
  refine held_take 0 (.pointer (some ⟨w.heap.size, 0, none⟩)) rfl (by kernel_rfl) (by kernel_rfl) (by kernel_rfl) (fun _ _ _ h => h) (by rfl) (by intro w' hS; go_simp) (by assumption) ?_
  try simp only [Act.put, List.setIfInBounds_toArray, List.set_cons_zero, List.set_cons_succ]
  refine held_take 1 (.agg #[.slice (some ⟨b, off, none⟩) 2 W.sc, .slice W.ca W.cl W.cc]) rfl (by kernel_rfl) (by kernel_rfl) (by kernel_rfl) (fun _ _ _ h => h) (by rfl) (by intro w' hS; go_simp) (by assumption) ?_
  try simp only [Act.put, List.setIfInBounds_toArray, List.set_cons_zero, List.set_cons_succ]
  refine held_call 2 (by kernel_rfl) rfl (by rfl) (fun K hK => ?_)
  go_simp
  refine (C1.out wA.drew t1.out).mono ?_
  rintro e wq1 ⟨rfl, hb⟩
  have bq1 := Lib.hid (t1.out.trans ((hb).mono t1.out.size))
  go_wp2_with fail
  refine hK.out _ _ (SK.out _ bq1.out) (fun hHeld => ?_)
  try simp only [Act.put, List.setIfInBounds_toArray, List.set_cons_zero, List.set_cons_succ]
  refine held_take 3 (.bool true) rfl (by kernel_rfl) (by kernel_rfl) (by kernel_rfl) (fun _ _ _ h => h) (by rfl) (by intro w' hS; go_simp) (by assumption) ?_
  try simp only [Act.put, List.setIfInBounds_toArray, List.set_cons_zero, List.set_cons_succ]
  refine held_take 4 (.pointer (some ⟨w.heap.size, 2, none⟩)) rfl (by kernel_rfl) (by kernel_rfl) (by kernel_rfl) (fun _ _ _ h => h) (by rfl) (by intro w' hS; go_simp) (by assumption) ?_
  try simp only [Act.put, List.setIfInBounds_toArray, List.set_cons_zero, List.set_cons_succ]
  refine held_take 5 (.agg #[.slice B.sa B.sl B.sc, .slice B.ca B.cl B.cc]) rfl (by kernel_rfl) (by kernel_rfl) (by kernel_rfl) (fun _ _ _ h => h) (by rfl) (by intro w' hS; go_simp) (by assumption) ?_
  try simp only [Act.put, List.setIfInBounds_toArray, List.set_cons_zero, List.set_cons_succ]
  refine held_call 6 (by kernel_rfl) rfl (by rfl) (fun K hK => ?_)
  go_simp
  refine (C2.out wq1 bq1.out).mono ?_
  rintro e wq2 ⟨rfl, hb⟩
  have bq2 := Lib.hid (bq1.out.trans ((hb).mono bq1.out.size))
  go_wp2_with fail
  refine hK.out _ _ (SK.out _ bq2.out) (fun hHeld => ?_)
  try simp only [Act.put, List.setIfInBounds_toArray, List.set_cons_zero, List.set_cons_succ]
  refine held_take 7 (.bool true) rfl (by kernel_rfl) (by kernel_rfl) (by kernel_rfl) (fun _ _ _ h => h) (by rfl) (by intro w' hS; go_simp) (by assumption) ?_
  try simp only [Act.put, List.setIfInBounds_toArray, List.set_cons_zero, List.set_cons_succ]
  refine held_take 8 (.bool true) rfl (by kernel_rfl) (by kernel_rfl) (by kernel_rfl) (fun _ _ _ h => h) (by rfl) (by intro w' hS; go_simp) (by assumption) ?_
  try simp only [Act.put, List.setIfInBounds_toArray, List.set_cons_zero, List.set_cons_succ]
  refine held_take 9 (.pointer (some ⟨w.heap.size, 4, none⟩)) rfl (by kernel_rfl) (by kernel_rfl) (by kernel_rfl) (fun _ _ _ h => h) (by rfl) (by intro w' hS; go_simp) (by assumption) ?_
  try simp only [Act.put, List.setIfInBounds_toArray, List.set_cons_zero, List.set_cons_succ]
  refine held_take 10 (.agg #[.slice x.sa x.sl x.sc, .slice x.ca x.cl x.cc]) rfl (by kernel_rfl) (by kernel_rfl) (by kernel_rfl) (fun _ _ _ h => h) (by rfl) (by intro w' hS; go_simp) (by assumption) ?_
  try simp only [Act.put, List.setIfInBounds_toArray, List.set_cons_zero, List.set_cons_succ]
  refine held_call 11 (by kernel_rfl) rfl (by rfl) (fun K hK => ?_)
  go_simp
  refine (C3.out wq2 bq2.out).mono ?_
  rintro e wq3 ⟨rfl, hb⟩
  have bq3 := Lib.hid (bq2.out.trans ((hb).mono bq2.out.size))
  go_wp2_with fail
  refine hK.out _ _ (SK.out _ bq3.out) (fun hHeld => ?_)
  try simp only [Act.put, List.setIfInBounds_toArray, List.set_cons_zero, List.set_cons_succ]
  refine held_take 12 (.bool true) rfl (by kernel_rfl) (by kernel_rfl) (by kernel_rfl) (fun _ _ _ h => h) (by rfl) (by intro w' hS; go_simp) (by assumption) ?_
  try simp only [Act.put, List.setIfInBounds_toArray, List.set_cons_zero, List.set_cons_succ]
  refine held_take 13 (.bool true) rfl (by kernel_rfl) (by kernel_rfl) (by kernel_rfl) (fun _ _ _ h => h) (by rfl) (by intro w' hS; go_simp) (by assumption) ?_
  try simp only [Act.put, List.setIfInBounds_toArray, List.set_cons_zero, List.set_cons_succ]
  refine held_take 14 (.pointer (some ⟨w.heap.size, 0, none⟩)) rfl (by kernel_rfl) (by kernel_rfl) (by kernel_rfl) (fun _ _ _ h => h) (by rfl) (by intro w' hS; go_simp) (by assumption) ?_
  try simp only [Act.put, List.setIfInBounds_toArray, List.set_cons_zero, List.set_cons_succ]
  refine held_take 15 (.pointer (some ⟨w.heap.size, 0, none⟩)) rfl (by kernel_rfl) (by kernel_rfl) (by kernel_rfl) (fun _ _ _ h => h) (by rfl) (by intro w' hS; go_simp) (by assumption) ?_
  try simp only [Act.put, List.setIfInBounds_toArray, List.set_cons_zero, List.set_cons_succ]
  refine held_take 16 (.slice (some ⟨b, off, none⟩) 2 W.sc) rfl (by kernel_rfl) (by kernel_rfl) (by kernel_rfl) (fun _ _ _ h => h) (by rfl) (by intro w' hS; go_simp) (by assumption) ?_
  try simp only [Act.put, List.setIfInBounds_toArray, List.set_cons_zero, List.set_cons_succ]
  refine held_take 17 (.int .i64 2) rfl (by kernel_rfl) (by kernel_rfl) (by kernel_rfl) (fun _ _ _ h => h) (by rfl) (by intro w' hS; go_simp) (by assumption) ?_
  try simp only [Act.put, List.setIfInBounds_toArray, List.set_cons_zero, List.set_cons_succ]
  refine held_take 18 (.bool true) rfl (by kernel_rfl) (by kernel_rfl) (by kernel_rfl) (fun _ _ _ h => h) (by rfl) (by intro w' hS; go_simp) (by assumption) ?_
  try simp only [Act.put, List.setIfInBounds_toArray, List.set_cons_zero, List.set_cons_succ]
  refine held_take 19 (.bool true) rfl (by kernel_rfl) (by kernel_rfl) (by kernel_rfl) (fun _ _ _ h => h) (by rfl) (by intro w' hS; go_simp) (by assumption) ?_
  try simp only [Act.put, List.setIfInBounds_toArray, List.set_cons_zero, List.set_cons_succ]
  refine held_take 20 (.bool true) rfl (by kernel_rfl) (by kernel_rfl) (by kernel_rfl) (fun _ _ _ h => h) (by rfl) (by intro w' hS; go_simp) (by assumption) ?_
  try simp only [Act.put, List.setIfInBounds_toArray, List.set_cons_zero, List.set_cons_succ]
  refine held_take 21 (.pointer (some ⟨w.heap.size, 2, none⟩)) rfl (by kernel_rfl) (by kernel_rfl) (by kernel_rfl) (fun _ _ _ h => h) (by rfl) (by intro w' hS; go_simp) (by assumption) ?_
  try simp only [Act.put, List.setIfInBounds_toArray, List.set_cons_zero, List.set_cons_succ]
  refine held_take 22 (.pointer (some ⟨w.heap.size, 2, none⟩)) rfl (by kernel_rfl) (by kernel_rfl) (by kernel_rfl) (fun _ _ _ h => h) (by rfl) (by intro w' hS; go_simp) (by assumption) ?_
  try simp only [Act.put, List.setIfInBounds_toArray, List.set_cons_zero, List.set_cons_succ]
  refine held_take 23 (.slice B.sa B.sl B.sc) rfl (by kernel_rfl) (by kernel_rfl) (by kernel_rfl) (fun _ _ _ h => h) (by rfl) (by intro w' hS; go_simp) (by assumption) ?_
  try simp only [Act.put, List.setIfInBounds_toArray, List.set_cons_zero, List.set_cons_succ]
  refine held_take 24 (.pointer (some ⟨w.heap.size, 0, none⟩)) rfl (by kernel_rfl) (by kernel_rfl) (by kernel_rfl) (fun _ _ _ h => h) (by rfl) (by intro w' hS; go_simp) (by assumption) ?_
  try simp only [Act.put, List.setIfInBounds_toArray, List.set_cons_zero, List.set_cons_succ]
  refine held_take 25 (.pointer (some ⟨w.heap.size, 0, none⟩)) rfl (by kernel_rfl) (by kernel_rfl) (by kernel_rfl) (fun _ _ _ h => h) (by rfl) (by intro w' hS; go_simp) (by assumption) ?_
  try simp only [Act.put, List.setIfInBounds_toArray, List.set_cons_zero, List.set_cons_succ]
  refine held_take 26 (.slice (some ⟨b, off, none⟩) 2 W.sc) rfl (by kernel_rfl) (by kernel_rfl) (by kernel_rfl) (fun _ _ _ h => h) (by rfl) (by intro w' hS; go_simp) (by assumption) ?_
  try simp only [Act.put, List.setIfInBounds_toArray, List.set_cons_zero, List.set_cons_succ]
  refine held_take 27 (.pointer (some ⟨b, off, none⟩)) rfl (by kernel_rfl) (by kernel_rfl) (by kernel_rfl) (fun _ _ _ h => h) (by rfl) (by intro w' hS; go_simp) (by assumption) ?_
  try simp only [Act.put, List.setIfInBounds_toArray, List.set_cons_zero, List.set_cons_succ]
  refine held_take 28 (.int .i64 m) rfl (by kernel_rfl) (by kernel_rfl) (by kernel_rfl) (fun _ _ _ h => h) (by rfl) (by intro w' hS; go_simp) (by assumption) ?_
  try simp only [Act.put, List.setIfInBounds_toArray, List.set_cons_zero, List.set_cons_succ]
  refine held_call 29 (by kernel_rfl) rfl (by rfl) (fun K hK => ?_)
  go_simp
  have hone := Lib.hid (IntsAt.made wq3 3 [m] 1 rfl (by omega) hfm'.out)
  have hb : Below wq3.heap.size wq3 (wq3.alloc (.cells ([m].map (Value.int .i64)).toArray 3)) := (Below.refl _ _).alloc (Nat.le_refl _) _
  simp only [List.map_cons, List.map_nil] at hone hb
  obtain ⟨wq4, hnew⟩ : ∃ wn, wq3.alloc (.cells [Value.int .i64 m].toArray 3) = wn := ⟨_, rfl⟩
  rw [hnew] at hone hb ⊢
  clear hnew
  have bq4 := Lib.hid (bq3.out.trans (hb.mono bq3.out.size))
  refine hK.out _ _ (SK.out _ bq4.out) (fun hHeld => ?_)
  try simp only [Act.put, List.setIfInBounds_toArray, List.set_cons_zero, List.set_cons_succ]
  refine held_call 30 (by kernel_rfl) rfl (by rfl) (fun K hK => ?_)
  go_simp
  refine (C4.out wq4 bq4.out _ hone.out).mono ?_
  rintro e _ ⟨rfl, nq, rfl⟩
  have bq5 := Lib.hid (bq4.out.trans ((below_drewN' (Below.refl _ _) nq).mono bq4.out.size))
  go_wp2_with fail
  refine hK.out _ _ (SK.out _ bq5.out) (fun hHeld => ?_)
  try simp only [Act.put, List.setIfInBounds_toArray, List.set_cons_zero, List.set_cons_succ]
  refine held_take 31 (.bool true) rfl (by kernel_rfl) (by kernel_rfl) (by kernel_rfl) (fun _ _ _ h => h) (by rfl) (by intro w' hS; go_simp) (by assumption) ?_
  try simp only [Act.put, List.setIfInBounds_toArray, List.set_cons_zero, List.set_cons_succ]
  refine held_take 32 (.bool true) rfl (by kernel_rfl) (by kernel_rfl) (by kernel_rfl) (fun _ _ _ h => h) (by rfl) (by intro w' hS; go_simp) (by assumption) ?_
  try simp only [Act.put, List.setIfInBounds_toArray, List.set_cons_zero, List.set_cons_succ]
  refine held_take 33 (.pointer (some ⟨w.heap.size, 4, none⟩)) rfl (by kernel_rfl) (by kernel_rfl) (by kernel_rfl) (fun _ _ _ h => h) (by rfl) (by intro w' hS; go_simp) (by assumption) ?_
  try simp only [Act.put, List.setIfInBounds_toArray, List.set_cons_zero, List.set_cons_succ]
  refine held_take 34 (.pointer (some ⟨w.heap.size, 5, none⟩)) rfl (by kernel_rfl) (by kernel_rfl) (by kernel_rfl) (fun _ _ _ h => h) (by rfl) (by intro w' hS; go_simp) (by assumption) ?_
  try simp only [Act.put, List.setIfInBounds_toArray, List.set_cons_zero, List.set_cons_succ]
  refine held_take 35 (.slice x.ca x.cl x.cc) rfl (by kernel_rfl) (by kernel_rfl) (by kernel_rfl) (fun _ _ _ h => h) (by rfl) (by intro w' hS; go_simp) (by assumption) ?_
  try simp only [Act.put, List.setIfInBounds_toArray, List.set_cons_zero, List.set_cons_succ]
  refine held_take 36 (.int .i64 x.cl) rfl (by kernel_rfl) (by kernel_rfl) (by kernel_rfl) (fun _ _ _ h => h) (by rfl) (by intro w' hS; go_simp) (by assumption) ?_
  try simp only [Act.put, List.setIfInBounds_toArray, List.set_cons_zero, List.set_cons_succ]
  refine held_take 37 (.pointer (some ⟨w.heap.size, 0, none⟩)) rfl (by kernel_rfl) (by kernel_rfl) (by kernel_rfl) (fun _ _ _ h => h) (by rfl) (by intro w' hS; go_simp) (by assumption) ?_
  try simp only [Act.put, List.setIfInBounds_toArray, List.set_cons_zero, List.set_cons_succ]
  refine held_take 38 (.pointer (some ⟨w.heap.size, 0, none⟩)) rfl (by kernel_rfl) (by kernel_rfl) (by kernel_rfl) (fun _ _ _ h => h) (by rfl) (by intro w' hS; go_simp) (by assumption) ?_
  try simp only [Act.put, List.setIfInBounds_toArray, List.set_cons_zero, List.set_cons_succ]
  refine held_take 39 (.slice (some ⟨b, off, none⟩) 2 W.sc) rfl (by kernel_rfl) (by kernel_rfl) (by kernel_rfl) (fun _ _ _ h => h) (by rfl) (by intro w' hS; go_simp) (by assumption) ?_
  try simp only [Act.put, List.setIfInBounds_toArray, List.set_cons_zero, List.set_cons_succ]
  refine held_take 40 (.pointer (some ⟨b, off + 1, none⟩)) rfl (by kernel_rfl) (by kernel_rfl) (by kernel_rfl) (fun _ _ _ h => h) (by rfl) (by intro w' hS; go_simp) (by assumption) ?_
  try simp only [Act.put, List.setIfInBounds_toArray, List.set_cons_zero, List.set_cons_succ]
  refine held_take 41 (.int .i64 n) rfl (by kernel_rfl) (by kernel_rfl) (by kernel_rfl) (fun _ _ _ h => h) (by rfl) (by intro w' hS; go_simp) (by assumption) ?_
  try simp only [Act.put, List.setIfInBounds_toArray, List.set_cons_zero, List.set_cons_succ]
  refine held_take 42 (.bool ((x.cl : Int) == n)) rfl (by kernel_rfl) (by kernel_rfl) (by kernel_rfl) (fun _ _ _ h => h) (by rfl) (by intro w' hS; go_simp) (by assumption) ?_
  try simp only [Act.put, List.setIfInBounds_toArray, List.set_cons_zero, List.set_cons_succ]
  refine held_take 43 (.bool ((x.cl : Int) == n)) rfl (by kernel_rfl) (by kernel_rfl) (by kernel_rfl) (fun _ _ _ h => h) (by rfl) (by intro w' hS; go_simp) (by assumption) ?_
  try simp only [Act.put, List.setIfInBounds_toArray, List.set_cons_zero, List.set_cons_succ]
  refine held_take 44 (.bool ((x.cl : Int) == n)) rfl (by kernel_rfl) (by kernel_rfl) (by kernel_rfl) (fun _ _ _ h => h) (by rfl) (by intro w' hS; go_simp) (by assumption) ?_
  try simp only [Act.put, List.setIfInBounds_toArray, List.set_cons_zero, List.set_cons_succ]
  refine wpAnyH_done (by kernel_rfl) ?_ _
  go_wp2_with fail
  go_ret
  exact ⟨ret_bool E.out, z.out.trans (bq5.out.mono z.out.size)⟩

set_option maxHeartbeats 2000000 in
theorem same6_any (t : TV) (sa : Option Addr) (sl sc : Nat) (la : Option Addr) (lc : Nat) (w : World) (ht : t.At w) (hs : IntsAt w sa sl t.ss) (hl : IntsAt w la t.cl t.cs) :
    Calls Try.prog 12 #[.agg #[.slice t.sa t.sl t.sc, .slice t.ca t.cl t.cc], .slice sa sl sc, .slice la t.cl lc] w fun e w' => e = .returned (.bool true) ∧ Below w.heap.size w w' := by
  obtain ⟨wB, hwB, J, z, n1⟩ := grid_box w (.slice t.sa t.sl t.sc) (.slice t.ca t.cl t.cc)
  have SM := same_any t.sa t.sl t.sc t.ss sa sl sc t.ss wB (ht.1.kept z.out) (hs.kept z.out)
  rw [sameL_self] at SM
  have SM' := Lib.hid SM
  have HA := Lib.hid (ht.2.1.kept z.out)
  have HB := Lib.hid (hl.kept z.out)
  have hl6 := ht.2.2.2
  clear ht hs hl SM
  obtain ⟨i0, i1, -, -⟩ := J.out.see
  obtain ⟨y, hy⟩ : ∃ y, t.cl = y := ⟨_, rfl⟩
  rw [hy] at HA HB i1 hwB hl6 ⊢
  clear hy
  go_enter Try.func12, Try.ntmps12
  go_upto_region 1 with (fail)
  rw [hwB.out]
  go_wp2_with fail
  refine SM'.out.mono ?_
  rintro e w1 ⟨rfl, m, rfl⟩
  go_wp2_with fail
  go_loopw [23] (fun i wr => ∃ j : Nat, j ≤ y ∧ i = .int .i64 j ∧ Hid (∃ m, wr = wB.drewN m)) (fun i _ => y - (intOf i).toNat)
  case atStart => exact ⟨0, Nat.zero_le _, rfl, Lib.hid ⟨m, rfl⟩⟩
  case round =>
    obtain ⟨j, hj, rfl, hw⟩ := hrel
    obtain ⟨m', hm⟩ := hw.out
    have kW : Below wB.heap.size wB wr := by rw [hm]; exact below_drewN' (Below.refl _ _) m'
    have kW' := Lib.hid kW
    have f1 : wr.cell? ⟨w.heap.size, 1, none⟩ = some (.slice t.ca y t.cc) := cell_later kW i1
    by_cases hlt : j < y
    · obtain ⟨b1, o1, q1, e1⟩ : ∃ b1 off, t.ca = some ⟨b1, off, none⟩ ∧ wr.cell? ⟨b1, off + j, none⟩ = some (.int .i64 (t.cs.getD j 0)) := by
        rcases (HA.out.kept kW).2.2.2 with h4 | ⟨b1, off, ha, hcc⟩
        · omega
        · exact ⟨b1, off, ha, hcc j hlt⟩
      obtain ⟨b2, o2, q2, e2⟩ : ∃ b1 off, la = some ⟨b1, off, none⟩ ∧ wr.cell? ⟨b1, off + j, none⟩ = some (.int .i64 (t.cs.getD j 0)) := by
        rcases (HB.out.kept kW).2.2.2 with h4 | ⟨b1, off, ha, hcc⟩
        · omega
        · exact ⟨b1, off, ha, hcc j hlt⟩
      rw [q1] at f1
      have hm' := Lib.hid hm
      subst q2
      obtain ⟨x, hx⟩ : ∃ x, t.cs.getD j 0 = x := ⟨_, rfl⟩
      rw [hx] at e1 e2
      clear hm hw kW q1 hx i0 i1
      go_wp2_with fail
      go_quiet (fail)
      go_wp2_with fail
      go_roundw
      case rel => exact ⟨j + 1, by omega, by go_num, Lib.hid ⟨m' + nq, by rw [hm'.out, World.drewN_drewN]⟩⟩
      case measure => (simp [intOf]; try omega)
    · have hm' := Lib.hid hm
      clear hm hw kW
      go_wp2_with fail
      go_ret
      exact ⟨rfl, z.out.trans (kW'.out.mono z.out.size)⟩
end Go.Proofs.Ytlpecdfiagklpaa
