import Derived.Test.YtapelgjnnccfoaaJ01
import Derived.Test.YtapelgjnnccfoaaJ10
import Derived.Test.YtapelgjnnccfoaaJ11
import Derived.Test.YtapelgjnnccfoaaJ15
import Derived.Test.YtapelgjnnccfoaaJ18
/-
  A kernel that is one cell, One: what the program's order of products makes of it.
-/
namespace Go.Proofs.Ytapelgjnnccfoaa
open Go.RowKit
set_option linter.unusedVariables false
set_option linter.unusedSimpArgs false

theorem winC_ones {n : Nat} (h : 1 ≤ n) : winC n 1 1 = n := by
  unfold winC
  rw [if_pos ⟨by omega, by omega, h⟩, Nat.div_one]
  omega
theorem winE_ones {n : Nat} (h : 1 ≤ n) (h2 : n ≤ 1024) : winE n (1 : Nat) (1 : Nat) = 0 := winE_zero (by omega)
theorem ones_two {n : Int} (hr : rightS [1, n] = true) : toldE [1, 1, 1] [1, n] 1 = 0 ∧ outS [1, 1, 1] [1, n] 1 = [1, n] ∧ touchL [1, 1, 1] [1, n] 1 = (List.range (prodI [1, n]).toNat).map fun k => (k, 0, k) := by
  have h0 := allR_getD (rightS_parts hr).2.2.1 1 (by simp)
  simp at h0
  obtain ⟨m, rfl⟩ := nat_of (z := n) (by omega)
  have e := winE_ones (n := m) (by omega) (by omega)
  have en := winN_nat e
  rw [winC_ones (by omega)] at en
  have ho : outS [1, 1, 1] [1, (m : Int)] 1 = [1, (m : Int)] := by
    show [1, winN (m : Int) 1 1] = _
    rw [show winN (m : Int) 1 1 = (m : Int) from en]
  have ht : toldE [1, 1, 1] [1, (m : Int)] 1 = 0 := by
    refine told_ok ?_ ?_ (by rw [ho]; exact hr)
    · unfold formOk
      rw [hr]
      rfl
    · show decide (winE (m : Int) 1 1 = 0) = true
      exact decide_eq_true e
  refine ⟨ht, ho, ?_⟩
  have hp : planOf [1, 1, 1] [1, (m : Int)] 1 = ⟨1, 1, 1, 1, 1, m, 1, 1, 1, m⟩ := by
    show PlanN.mk _ _ _ _ _ _ _ _ _ _ = _
    rw [show winN (m : Int) 1 1 = (m : Int) from en]
    rfl
  unfold touchL
  rw [if_pos ht, hp, PlanN.all_one 1 m 1 1 (.inl rfl) (.inl rfl), prodI_two]
  congr 2
theorem ones_three {h n : Int} (hr : rightS [1, h, n] = true) : toldE [1, 1, 1, 1] [1, h, n] 1 = 0 ∧ outS [1, 1, 1, 1] [1, h, n] 1 = [1, h, n] ∧ touchL [1, 1, 1, 1] [1, h, n] 1 = (List.range (prodI [1, h, n]).toNat).map fun k => (k, 0, k) := by
  have h1 := allR_getD (rightS_parts hr).2.2.1 1 (by simp)
  have h2 := allR_getD (rightS_parts hr).2.2.1 2 (by simp)
  simp at h1 h2
  obtain ⟨l, rfl⟩ := nat_of (z := h) (by omega)
  obtain ⟨m, rfl⟩ := nat_of (z := n) (by omega)
  have e := winE_ones (n := m) (by omega) (by omega)
  have en := winN_nat e
  rw [winC_ones (by omega)] at en
  have e' := winE_ones (n := l) (by omega) (by omega)
  have en' := winN_nat e'
  rw [winC_ones (by omega)] at en'
  have ho : outS [1, 1, 1, 1] [1, (l : Int), (m : Int)] 1 = [1, (l : Int), (m : Int)] := by
    show [1, winN (l : Int) 1 1, winN (m : Int) 1 1] = _
    rw [show winN (m : Int) 1 1 = (m : Int) from en, show winN (l : Int) 1 1 = (l : Int) from en']
  have ht : toldE [1, 1, 1, 1] [1, (l : Int), (m : Int)] 1 = 0 := by
    refine told_ok ?_ ?_ (by rw [ho]; exact hr)
    · unfold formOk
      rw [hr]
      rfl
    · show (decide (winE (l : Int) 1 1 = 0) && decide (winE (m : Int) 1 1 = 0)) = true
      rw [Bool.and_eq_true]
      exact ⟨decide_eq_true e', decide_eq_true e⟩
  refine ⟨ht, ho, ?_⟩
  have hp : planOf [1, 1, 1, 1] [1, (l : Int), (m : Int)] 1 = ⟨1, 1, 1, 1, l, m, 1, 1, l, m⟩ := by
    show PlanN.mk _ _ _ _ _ _ _ _ _ _ = _
    rw [show winN (m : Int) 1 1 = (m : Int) from en, show winN (l : Int) 1 1 = (l : Int) from en']
    rfl
  unfold touchL
  rw [if_pos ht, hp, PlanN.all_one l m 1 1 (.inl rfl) (.inl rfl), prodI_three]
  congr 2
  rw [Int.one_mul, ← Int.natCast_mul]
  rfl

theorem ones_run {N : Nat} {cs : List Int} (h : cs.length = N) (hf : Fits cs) (f : Tri → Nat × Int) (hfk : ∀ k, f (k, 0, k) = (k, cs.getD k 0)) : runP N f ((List.range N).map fun k => (k, 0, k)) = cs := by
  unfold runP
  rw [List.map_map]
  have : (f ∘ fun k => (k, 0, k)) = fun k => (k, (fun k => cs.getD k 0) k) := by
    funext k
    exact hfk k
  rw [this, runL_once]
  refine List.ext_getElem (by simp [h]) (fun k h1 h2 => ?_)
  have hb := hf.getD k
  have e : cs.getD k 0 = cs[k] := by simp [List.getD_eq_getElem?_getD, h2]
  simp only [List.getElem_map, List.getElem_range]
  rw [Int.zero_add, e]
  rw [e] at hb
  exact sat_in _ hb.1 hb.2
theorem ones_go {N : Nat} {cs : List Int} (h : cs.length = N) (hf : Fits cs) : runP N (goV [4294967296] cs) ((List.range N).map fun k => (k, 0, k)) = cs :=
  ones_run h hf _ (fun k => by
    show (k, mulF 4294967296 (cs.getD k 0)) = _
    rw [mulF_comm]
    exact congrArg _ (mulF_one _ (hf.getD k).1 (hf.getD k).2))
theorem ones_back {N : Nat} {gs : List Int} (h : gs.length = N) (hf : Fits gs) : runP N (backV2 gs [4294967296]) ((List.range N).map fun k => (k, 0, k)) = gs :=
  ones_run h hf _ (fun k => by
    show (k, mulF (gs.getD k 0) 4294967296) = _
    exact congrArg _ (mulF_one _ (hf.getD k).1 (hf.getD k).2))
theorem row_caps {w : World} {B : Nat} {e : TypeId} {A : Option Addr} {l c n : Nat} {xs : List Value} (h : w.ownsRow B e 1 (.slice A l c) n xs) : l ≤ c ∧ c ≤ 9223372036854775807 := by
  rcases h.2 with ⟨hv, -⟩ | ⟨g, cap, cur, hv, -, -, h1, h2, -, -⟩
  · simp only [Value.slice.injEq] at hv
    obtain ⟨-, rfl, rfl⟩ := hv
    exact ⟨Nat.le_refl _, by omega⟩
  · simp only [Value.slice.injEq] at hv
    obtain ⟨-, rfl, rfl⟩ := hv
    exact ⟨h1, by unfold maxLen at h2; omega⟩
/-- A row of four ones, and its first ones. -/
theorem ones_made (w : World) (n : Nat) (hn : n ≤ 4) : ∃ w0, Hid (w.alloc (.cells #[.int .i64 1, .int .i64 1, .int .i64 1, .int .i64 1] 3) = w0) ∧ Hid (IntsAt w0 (some ⟨w.heap.size, 0, none⟩) n (([1, 1, 1, 1] : List Int).take n)) ∧ Hid (Below w.heap.size w w0) := by
  exact ⟨_, Lib.hid rfl, Lib.hid (by
    have h := World.alloc_heap_new w (.cells #[.int .i64 1, .int .i64 1, .int .i64 1, .int .i64 1] 3)
    refine ⟨by simp; omega, by omega, fits_few (by
      match n, hn with
      | 0, _ => decide +kernel
      | 1, _ => decide +kernel
      | 2, _ => decide +kernel
      | 3, _ => decide +kernel
      | 4, _ => decide +kernel), .inr ⟨_, _, rfl, fun j hj => ?_⟩⟩
    rw [Joins.cell_of_block h]
    match j, (show j < 4 by omega), n, hj with
    | 0, _, n + 1, _ => rfl
    | 1, _, n + 2, _ => rfl
    | 2, _, n + 3, _ => rfl
    | 3, _, n + 4, _ => rfl), Lib.hid ((Below.refl _ _).alloc (Nat.le_refl _) _)⟩
end Go.Proofs.Ytapelgjnnccfoaa

/-
  The walk of the statement ConvOnes.
-/
namespace Go.Proofs.Ytapelgjnnccfoaa
open Go.RowKit Go.ChangeShapes Go.WideShapes Go.Deep
set_option linter.unusedVariables false
set_option linter.unusedSimpArgs false

section
variable {H : Type} {enc : TypeId × Value → H} {w : World} {base : Nat} {spare : Nat → Bool} {held : Bool}
set_option maxRecDepth 100000 in
theorem grid_arg3 {r : Reach} {b0 : Nat} {v : Value} {d : DataW H} {p : List MemPlace} (hv : Value.okWide Try.prog w r b0 34 v)
    (h : DataW.Trod enc Try.prog w base spare held 34 v d p) (hw : ∀ n ∈ d.weights Try.prog 34, n ≤ reachBytes) :
    ∃ t : TV, v = .agg #[.slice (TV.sa t) (TV.sl t) (TV.sc t), .slice (TV.ca t) (TV.cl t) (TV.cc t)] ∧ (t.At w ∧ t.CapS) := by
  obtain ⟨⟨l⟩, rfl, hsz⟩ := okWide_struct Try.underlying34 hv
  obtain ⟨fuel, hf⟩ := h
  replace hsz : l.length = Try.prog.cellsOf 34 := hsz
  rw [gcellsG] at hsz
  match l, hsz with
  | [c0, c1], _ =>
    obtain ⟨t, e0, e1, A, C, S⟩ := grid_one3 (x := (d, p)) hf hw
    subst e0 e1
    exact ⟨t, rfl, A, S⟩
end

set_option maxRecDepth 100000 in
set_option maxHeartbeats 8000000 in
theorem convOnes_no (x G : TV) (w : World) (hx : x.At w) (hno : ¬ (x.sl ≤ 9 ∧ x.cl ≤ 200 ∧ rightT x.ss x.cl = true ∧ 2 ≤ x.sl ∧ x.sl ≤ 3 ∧ x.ss.getD 0 0 = 1)) :
    Calls Try.prog 7 #[.agg #[.slice x.sa x.sl x.sc, .slice x.ca x.cl x.cc], .agg #[.slice G.sa G.sl G.sc, .slice G.ca G.cl G.cc]] w fun e w' => e = .returned (.bool true) ∧ Below w.heap.size w w' := by
  obtain ⟨wA, hwA, J1, z1, n1⟩ := grid_box w (.slice x.sa x.sl x.sc) (.slice x.ca x.cl x.cc)
  obtain ⟨wB, hwB, J2, z2, n2⟩ := grid_box wA (.slice G.sa G.sl G.sc) (.slice G.ca G.cl G.cc)
  rw [n1.out] at J2
  have z := Lib.hid (z1.out.trans (z2.out.mono z1.out.size))
  have J1' := Lib.hid (J1.out.kept z2.out)
  have RX := rright_any x.sa x.sl x.sc x.ss x.ca x.cl x.cc wB (hx.1.kept z.out) (by have := hx.2.2.2; omega)
  by_cases c0 : x.sl ≤ 9
  case neg =>
    have d0 : decide ((9 : Int) < (x.sl : Int)) = true := decide_eq_true (by omega)
    clear RX hno c0 hx
    obtain ⟨j0, j1, -, -⟩ := J1'.out.see
    go_enter Try.func7, Try.ntmps7
    go_upto_region 1 with (fail)
    rw [hwA.out, hwB.out]
    go_wp2_with fail
    refine (awake07_any _).mono ?_
    rintro e w9 ⟨rfl, hb9⟩
    go_wp2_with fail
    go_ret
    exact ⟨rfl, z.out.trans (hb9.mono z.out.size)⟩
  have d0 : decide ((9 : Int) < (x.sl : Int)) = false := decide_eq_false (by omega)
  by_cases c1 : x.cl ≤ 200
  case neg =>
    have d1 : decide ((200 : Int) < (x.cl : Int)) = true := decide_eq_true (by omega)
    clear RX hno c0 c1 hx
    obtain ⟨j0, j1, -, -⟩ := J1'.out.see
    go_enter Try.func7, Try.ntmps7
    go_upto_region 1 with (fail)
    rw [hwA.out, hwB.out]
    go_wp2_with fail
    refine (awake07_any _).mono ?_
    rintro e w9 ⟨rfl, hb9⟩
    go_wp2_with fail
    go_ret
    exact ⟨rfl, z.out.trans (hb9.mono z.out.size)⟩
  have d1 : decide ((200 : Int) < (x.cl : Int)) = false := decide_eq_false (by omega)
  cases c2 : rightT x.ss x.cl
  · rw [c2] at RX
    have RX' := Lib.hid RX
    clear RX hno c0 c1 c2 hx
    obtain ⟨j0, j1, -, -⟩ := J1'.out.see
    go_enter Try.func7, Try.ntmps7
    go_upto_region 1 with (fail)
    rw [hwA.out, hwB.out]
    go_wp2_with fail
    refine RX'.out.mono ?_
    rintro e w1 ⟨rfl, hb1⟩
    have b1 := Lib.hid (z.out.trans (hb1.mono z.out.size))
    clear hb1 RX'
    clear j0 j1
    go_wp2_with fail
    refine (awake07_any _).mono ?_
    rintro e w9 ⟨rfl, hb9⟩
    go_wp2_with fail
    go_ret
    exact ⟨rfl, b1.out.trans (hb9.mono b1.out.size)⟩
  rw [c2] at RX
  have RX' := Lib.hid RX
  clear RX
  by_cases c3 : 2 ≤ x.sl
  case neg =>
    have d3 : decide ((x.sl : Int) < 2) = true := decide_eq_true (by omega)
    clear hno c0 c1 c2 c3 hx
    obtain ⟨j0, j1, -, -⟩ := J1'.out.see
    go_enter Try.func7, Try.ntmps7
    go_upto_region 1 with (fail)
    rw [hwA.out, hwB.out]
    go_wp2_with fail
    refine RX'.out.mono ?_
    rintro e w1 ⟨rfl, hb1⟩
    have b1 := Lib.hid (z.out.trans (hb1.mono z.out.size))
    have K1 := Lib.hid (J1'.out.kept hb1)
    clear hb1 RX'
    clear j0 j1
    obtain ⟨j0, j1, -, -⟩ := K1.out.see
    go_wp2_with fail
    refine (awake07_any _).mono ?_
    rintro e w9 ⟨rfl, hb9⟩
    go_wp2_with fail
    go_ret
    exact ⟨rfl, b1.out.trans (hb9.mono b1.out.size)⟩
  have d3 : decide ((x.sl : Int) < 2) = false := decide_eq_false (by omega)
  by_cases c4 : x.sl ≤ 3
  case neg =>
    have d4 : decide ((3 : Int) < (x.sl : Int)) = true := decide_eq_true (by omega)
    clear hno c0 c1 c2 c3 c4 hx
    obtain ⟨j0, j1, -, -⟩ := J1'.out.see
    go_enter Try.func7, Try.ntmps7
    go_upto_region 1 with (fail)
    rw [hwA.out, hwB.out]
    go_wp2_with fail
    refine RX'.out.mono ?_
    rintro e w1 ⟨rfl, hb1⟩
    have b1 := Lib.hid (z.out.trans (hb1.mono z.out.size))
    have K1 := Lib.hid (J1'.out.kept hb1)
    clear hb1 RX'
    clear j0 j1
    obtain ⟨j0, j1, -, -⟩ := K1.out.see
    go_wp2_with fail
    refine (awake07_any _).mono ?_
    rintro e w9 ⟨rfl, hb9⟩
    go_wp2_with fail
    go_ret
    exact ⟨rfl, b1.out.trans (hb9.mono b1.out.size)⟩
  have d4 : decide ((3 : Int) < (x.sl : Int)) = false := decide_eq_false (by omega)
  by_cases c5 : x.ss.getD 0 0 = 1
  · exact absurd ⟨c0, c1, c2, c3, c4, c5⟩ hno
  obtain ⟨b, off, ha, hc⟩ := ints_cell hx.1 (by omega)
  have F0 := fun w1 (hb : Below w.heap.size w w1) => cell_later hb (hc 0 (by omega))
  obtain ⟨f, hf⟩ : ∃ f, x.ss.getD 0 0 = f := ⟨_, rfl⟩
  rw [hf] at F0 c5
  simp only [Nat.add_zero] at F0
  replace F0 := Lib.hid F0
  have d5 : (f == 1) = false := by simpa using c5
  have d6 : (f != 1) = true := by simpa using c5
  have hl : ¬ x.sl = 0 := by omega
  rw [ha] at J1' hwA RX' ⊢
  obtain ⟨l, hl2⟩ : ∃ l, x.sl = l := ⟨_, rfl⟩
  rw [hl2] at J1' hwA RX' d0 d3 d4 hl ⊢
  clear hno c0 c1 c2 c3 c4 c5 hx ha hc hf hl2
  obtain ⟨j0, j1, -, -⟩ := J1'.out.see
  go_enter Try.func7, Try.ntmps7
  go_upto_region 1 with (fail)
  rw [hwA.out, hwB.out]
  go_wp2_with fail
  refine RX'.out.mono ?_
  rintro e w1 ⟨rfl, hb1⟩
  have b1 := Lib.hid (z.out.trans (hb1.mono z.out.size))
  have K1 := Lib.hid (J1'.out.kept hb1)
  clear hb1 RX'
  clear j0 j1
  obtain ⟨j0, j1, -, -⟩ := K1.out.see
  have f0 := F0.out w1 b1.out
  clear F0
  go_wp2_with fail
  refine (awake07_any _).mono ?_
  rintro e w9 ⟨rfl, hb9⟩
  go_wp2_with fail
  go_ret
  exact ⟨rfl, b1.out.trans (hb9.mono b1.out.size)⟩

set_option maxRecDepth 100000 in
set_option maxHeartbeats 16000000 in
theorem convOnes_bad2 (b off xc : Nat) (n : Int) (ca : Option Addr) (cl cc : Nat) (cs : List Int) (G : TV) (w : World) (hx : TV.At ⟨some ⟨b, off, none⟩, 2, xc, [1, n], ca, cl, cc, cs⟩ w) (hc1 : 2 ≤ xc) (hc2 : xc ≤ 9223372036854775807) (hl : cl ≤ 200) (hr : rightT [1, n] cl = true) (hg : G.At w) (hG : gOk G [1, n] = false) :
    Calls Try.prog 7 #[.agg #[.slice (some ⟨b, off, none⟩) 2 xc, .slice ca cl cc], .agg #[.slice G.sa G.sl G.sc, .slice G.ca G.cl G.cc]] w fun e w' => e = .returned (.bool true) ∧ Below w.heap.size w w' := by
  obtain ⟨r1, r2⟩ := rightT_parts hr
  have O := ones_two r1
  have hN : (prodI [1, n]).toNat = cl := by omega
  rw [hN] at O
  obtain ⟨o1, o2, o3⟩ := O
  have hpk : rightS [1, 1, 1] = true ∧ prodI [1, 1, 1] = 1 ∧ rightT [1, 1, 1] 1 = true := by decide +kernel
  have hcs : cs.length = cl := hx.2.1.1
  have hcf : Fits cs := hx.2.1.2.2.1
  have hsf : Fits [1, n] := hx.1.2.2.1
  have hxg := Lib.hid (fun w1 (hb : Below w.heap.size w w1) => hx.kept hb)
  have hgg := Lib.hid (fun w1 (hb : Below w.heap.size w w1) => hg.kept hb)
  have F0 := Lib.hid (fun w1 (hb : Below w.heap.size w w1) => (show w1.cell? ⟨b, off, none⟩ = some (.int .i64 1) from by
    have := (hx.kept hb).1.2.2.2
    rcases this with h4 | ⟨b', off', ha, hc⟩
    · cases h4
    · simp only [Option.some.injEq, Addr.mk.injEq] at ha
      obtain ⟨rfl, rfl, -⟩ := ha
      exact hc 0 (by show 0 < 2; omega)))
  have hE : ∀ A1 p1 A2 p2, tensE ⟨A1, 3, p1, [1, 1, 1], A2, 1, p2, [4294967296]⟩ ⟨some ⟨b, off, none⟩, 2, xc, [1, n], ca, cl, cc, cs⟩ 1 = 0 := fun A1 p1 A2 p2 => (tensE_yes (W := ⟨A1, 3, p1, [1, 1, 1], A2, 1, p2, [4294967296]⟩) (x := ⟨some ⟨b, off, none⟩, 2, xc, [1, n], ca, cl, cc, cs⟩) (s := 1) hpk.2.2 hr).trans o1
  have RX := Lib.hid (fun w1 (hb : Below w.heap.size w w1) => hr ▸ rright_any (some ⟨b, off, none⟩) 2 xc [1, n] ca cl cc w1 (hx.kept hb).1 (by omega))
  have MK := Lib.hid (fun A c w1 (hI : IntsAt w1 A 3 [1, 1, 1]) => make_ok A 3 c [1, 1, 1] 4294967296 w1 hI hpk.1 1 hpk.2.1)
  have GO := Lib.hid (fun A1 p1 A2 p2 w1 (hW : TV.At ⟨A1, 3, p1, [1, 1, 1], A2, 1, p2, [4294967296]⟩ w1) (hX : TV.At ⟨some ⟨b, off, none⟩, 2, xc, [1, n], ca, cl, cc, cs⟩ w1) (hc : 3 ≤ p1 ∧ p1 ≤ 9223372036854775807) => (show Calls Try.prog 14 #[.agg #[.slice A1 3 p1, .slice A2 1 p2], .agg #[.slice (some ⟨b, off, none⟩) 2 xc, .slice ca cl cc], .int .i64 1] w1 (OkT w1 2 [1, n] cl cs) from by
    have := convgo_ok ⟨A1, 3, p1, [1, 1, 1], A2, 1, p2, [4294967296]⟩ ⟨some ⟨b, off, none⟩, 2, xc, [1, n], ca, cl, cc, cs⟩ 1 w1 hW hX hc ⟨hc1, hc2⟩ (by omega) (by omega) (hE _ _ _ _) cl (by show prodI (outS [1, 1, 1] [1, n] 1) = _; rw [o2]; exact r2.symm)
    have e : runP cl (goV [4294967296] cs) (touchL [1, 1, 1] [1, n] 1) = cs := by rw [o3]; exact ones_go hcs hcf
    simp only [e, o2] at this
    exact this))
  have EQ := Lib.hid (fun Y yc Y' yc' w1 (hY : TV.At ⟨Y, 2, yc, [1, n], Y', cl, yc', cs⟩ w1) (hX : TV.At ⟨some ⟨b, off, none⟩, 2, xc, [1, n], ca, cl, cc, cs⟩ w1) => (show Calls Try.prog 25 #[.agg #[.slice Y 2 yc, .slice Y' cl yc'], .agg #[.slice (some ⟨b, off, none⟩) 2 xc, .slice ca cl cc]] w1 fun e w' => e = .returned (.bool true) ∧ Below w1.heap.size w1 w' from by
    have := tequal_any Y 2 yc [1, n] Y' cl yc' cs (some ⟨b, off, none⟩) 2 xc [1, n] ca cl cc cs w1 hY.1 hY.2.1 hX.1 hX.2.1
    rw [show sameT [1, n] cs [1, n] cs = true by unfold sameT; rw [sameL_self, sameL_self]; rfl] at this
    exact this))
  have RG := fun w1 (hb : Below w.heap.size w w1) => rright_any G.sa G.sl G.sc G.ss G.ca G.cl G.cc w1 (hg.1.kept hb) (by have := hg.2.2.2; omega)
  have RS := fun w1 (hb : Below w.heap.size w w1) => same_any G.sa G.sl G.sc G.ss (some ⟨b, off, none⟩) 2 xc [1, n] w1 (hg.1.kept hb) (hx.kept hb).1
  cases hb0 : rightT G.ss G.cl
  · rw [hb0] at RG
    replace RG := Lib.hid RG
    clear RS hb0 hG
    have hsf' := Lib.hid hsf
    have hcf' := Lib.hid hcf
    have hd := Lib.hid (show decide ((200 : Int) < (cl : Int)) = false from decide_eq_false (by omega))
    clear hr r1 r2 hN o1 o2 o3 hpk hcs hcf hsf hE hx hg hc1 hc2
    obtain ⟨wA, hwA, J1, z1, n1⟩ := grid_box w (.slice (some ⟨b, off, none⟩) 2 xc) (.slice ca cl cc)
    obtain ⟨wB, hwB, J2, z2, n2⟩ := grid_box wA (.slice G.sa G.sl G.sc) (.slice G.ca G.cl G.cc)
    rw [n1.out] at J2
    have z := Lib.hid (z1.out.trans (z2.out.mono z1.out.size))
    have J1' := Lib.hid (J1.out.kept z2.out)
    have d1 := hd.out
    obtain ⟨j0, j1, -, -⟩ := J1'.out.see
    go_enter Try.func7, Try.ntmps7
    go_upto_region 1 with (fail)
    rw [hwA.out, hwB.out]
    go_wp2_with fail
    refine (RX.out wB z.out).mono ?_
    rintro e w1 ⟨rfl, hb1⟩
    obtain ⟨wD, hwD, ID, zD⟩ := ones_made w1 3 (by omega)
    have b1 := Lib.hid (z.out.trans (hb1.mono z.out.size))
    have bD := Lib.hid (b1.out.trans (zD.out.mono b1.out.size))
    have kD := Lib.hid (hb1.trans (zD.out.mono hb1.size))
    have K1 := Lib.hid (J1'.out.kept hb1)
    have K2 := Lib.hid (J2.out.kept hb1)
    have K1D := Lib.hid (K1.out.kept zD.out)
    have K2D := Lib.hid (K2.out.kept zD.out)
    have f0 := F0.out w1 b1.out
    clear hb1 RX F0 J1' J2
    clear j0 j1
    obtain ⟨j0, j1, -, -⟩ := K1.out.see
    obtain ⟨u0, u1, -, -⟩ := K1D.out.see
    have hwD' := hwD.out
    go_wp2_with fail
    clear hwD' f0 u0 u1 d1 K1 K2
    clear j0 j1
    refine (MK.out _ _ wD ID.out).mono ?_
    rintro e w2 ⟨v', rfl, A1, p1, A2, p2, rfl, o1, o2, -, hb2⟩
    have cp := Lib.hid (row_caps o1)
    obtain ⟨wE, hwE, JW, zE, nE⟩ := grid_box w2 (.slice A1 3 p1) (.slice A2 1 p2)
    have kE := Lib.hid (hb2.trans (zE.out.mono hb2.size))
    have bE := Lib.hid (bD.out.trans (kE.out.mono bD.out.size))
    have K1E := Lib.hid (K1D.out.kept kE.out)
    have K2E := Lib.hid (K2D.out.kept kE.out)
    have TW := Lib.hid (show TV.At ⟨A1, 3, p1, [1, 1, 1], A2, 1, p2, [4294967296]⟩ wE from ⟨(row_ints o1 (show 3 ≤ 9223372036854775807 by omega) (fits_few (by decide +kernel))).kept zE.out, (row_ints (zs := [4294967296]) o2 (show 1 ≤ 9223372036854775807 by omega) (fun z hz => by simp at hz; omega)).kept zE.out, by simp, by simp⟩)
    clear hb2 o1 o2 MK ID K1D K2D
    go_upto_region 4 with (fail)
    rw [hwE.out]
    obtain ⟨v0, v1, -, -⟩ := JW.out.see
    obtain ⟨j0, j1, -, -⟩ := K1E.out.see
    go_wp2_with fail
    clear v0 v1
    clear j0 j1
    refine (GO.out A1 p1 A2 p2 wE TW.out (hxg.out wE bE.out) cp.out).mono ?_
    rintro e w3 ⟨v', rfl, Y, yc, Y', yc', rfl, o1, o2, -, hb3⟩
    obtain ⟨wF, hwF, JY, zF, nF⟩ := grid_box w3 (.slice Y 2 yc) (.slice Y' cl yc')
    have kF := Lib.hid (hb3.trans (zF.out.mono hb3.size))
    have bF := Lib.hid (bE.out.trans (kF.out.mono bE.out.size))
    have K1F := Lib.hid (K1E.out.kept kF.out)
    have K2F := Lib.hid (K2E.out.kept kF.out)
    have KWF := Lib.hid (JW.out.kept kF.out)
    have TWF := Lib.hid (TW.out.kept kF.out)
    have TY := Lib.hid (show TV.At ⟨Y, 2, yc, [1, n], Y', cl, yc', cs⟩ wF from ⟨(row_ints o1 (show 2 ≤ 9223372036854775807 by omega) hsf'.out).kept zF.out, (row_ints o2 (show cl ≤ 9223372036854775807 by omega) hcf'.out).kept zF.out, by simp, by show cl ≤ 17592186044416; omega⟩)
    clear hb3 o1 o2 GO K1E K2E JW TW
    go_upto_region 5 with (fail)
    rw [hwF.out]
    obtain ⟨v0, v1, -, -⟩ := JY.out.see
    obtain ⟨j0, j1, -, -⟩ := K1F.out.see
    go_wp2_with fail
    clear v0 v1
    clear j0 j1
    refine (EQ.out Y yc Y' yc' wF TY.out (hxg.out wF bF.out)).mono ?_
    rintro e w4 ⟨rfl, hb4⟩
    have b4 := Lib.hid (bF.out.trans (hb4.mono bF.out.size))
    have K1G := Lib.hid (K1F.out.kept hb4)
    have K2G := Lib.hid (K2F.out.kept hb4)
    have KWG := Lib.hid (KWF.out.kept hb4)
    have TWG := Lib.hid (TWF.out.kept hb4)
    clear hb4 EQ K1F K2F KWF TWF JY TY
    obtain ⟨i0, i1, -, -⟩ := K2G.out.see
    go_wp2_with fail
    clear i0 i1
    refine (RG.out w4 b4.out).mono ?_
    rintro e w5 ⟨rfl, hb5⟩
    have b5 := Lib.hid (b4.out.trans (hb5.mono b4.out.size))
    clear hb5 RG K1G K2G KWG TWG
    go_wp2_with fail
    refine (awake07_any _).mono ?_
    rintro e w9 ⟨rfl, hb9⟩
    go_wp2_with fail
    go_ret
    exact ⟨rfl, b5.out.trans (hb9.mono b5.out.size)⟩
  · have hsm : sameL G.ss [1, n] = false := by
      unfold gOk at hG
      rw [hb0] at hG
      simpa using hG
    rw [hb0] at RG
    replace RG := Lib.hid RG
    simp only [hsm] at RS
    replace RS := Lib.hid RS
    clear hb0 hG hsm
    have hsf' := Lib.hid hsf
    have hcf' := Lib.hid hcf
    have hd := Lib.hid (show decide ((200 : Int) < (cl : Int)) = false from decide_eq_false (by omega))
    clear hr r1 r2 hN o1 o2 o3 hpk hcs hcf hsf hE hx hg hc1 hc2
    obtain ⟨wA, hwA, J1, z1, n1⟩ := grid_box w (.slice (some ⟨b, off, none⟩) 2 xc) (.slice ca cl cc)
    obtain ⟨wB, hwB, J2, z2, n2⟩ := grid_box wA (.slice G.sa G.sl G.sc) (.slice G.ca G.cl G.cc)
    rw [n1.out] at J2
    have z := Lib.hid (z1.out.trans (z2.out.mono z1.out.size))
    have J1' := Lib.hid (J1.out.kept z2.out)
    have d1 := hd.out
    obtain ⟨j0, j1, -, -⟩ := J1'.out.see
    go_enter Try.func7, Try.ntmps7
    go_upto_region 1 with (fail)
    rw [hwA.out, hwB.out]
    go_wp2_with fail
    refine (RX.out wB z.out).mono ?_
    rintro e w1 ⟨rfl, hb1⟩
    obtain ⟨wD, hwD, ID, zD⟩ := ones_made w1 3 (by omega)
    have b1 := Lib.hid (z.out.trans (hb1.mono z.out.size))
    have bD := Lib.hid (b1.out.trans (zD.out.mono b1.out.size))
    have kD := Lib.hid (hb1.trans (zD.out.mono hb1.size))
    have K1 := Lib.hid (J1'.out.kept hb1)
    have K2 := Lib.hid (J2.out.kept hb1)
    have K1D := Lib.hid (K1.out.kept zD.out)
    have K2D := Lib.hid (K2.out.kept zD.out)
    have f0 := F0.out w1 b1.out
    clear hb1 RX F0 J1' J2
    clear j0 j1
    obtain ⟨j0, j1, -, -⟩ := K1.out.see
    obtain ⟨u0, u1, -, -⟩ := K1D.out.see
    have hwD' := hwD.out
    go_wp2_with fail
    clear hwD' f0 u0 u1 d1 K1 K2
    clear j0 j1
    refine (MK.out _ _ wD ID.out).mono ?_
    rintro e w2 ⟨v', rfl, A1, p1, A2, p2, rfl, o1, o2, -, hb2⟩
    have cp := Lib.hid (row_caps o1)
    obtain ⟨wE, hwE, JW, zE, nE⟩ := grid_box w2 (.slice A1 3 p1) (.slice A2 1 p2)
    have kE := Lib.hid (hb2.trans (zE.out.mono hb2.size))
    have bE := Lib.hid (bD.out.trans (kE.out.mono bD.out.size))
    have K1E := Lib.hid (K1D.out.kept kE.out)
    have K2E := Lib.hid (K2D.out.kept kE.out)
    have TW := Lib.hid (show TV.At ⟨A1, 3, p1, [1, 1, 1], A2, 1, p2, [4294967296]⟩ wE from ⟨(row_ints o1 (show 3 ≤ 9223372036854775807 by omega) (fits_few (by decide +kernel))).kept zE.out, (row_ints (zs := [4294967296]) o2 (show 1 ≤ 9223372036854775807 by omega) (fun z hz => by simp at hz; omega)).kept zE.out, by simp, by simp⟩)
    clear hb2 o1 o2 MK ID K1D K2D
    go_upto_region 4 with (fail)
    rw [hwE.out]
    obtain ⟨v0, v1, -, -⟩ := JW.out.see
    obtain ⟨j0, j1, -, -⟩ := K1E.out.see
    go_wp2_with fail
    clear v0 v1
    clear j0 j1
    refine (GO.out A1 p1 A2 p2 wE TW.out (hxg.out wE bE.out) cp.out).mono ?_
    rintro e w3 ⟨v', rfl, Y, yc, Y', yc', rfl, o1, o2, -, hb3⟩
    obtain ⟨wF, hwF, JY, zF, nF⟩ := grid_box w3 (.slice Y 2 yc) (.slice Y' cl yc')
    have kF := Lib.hid (hb3.trans (zF.out.mono hb3.size))
    have bF := Lib.hid (bE.out.trans (kF.out.mono bE.out.size))
    have K1F := Lib.hid (K1E.out.kept kF.out)
    have K2F := Lib.hid (K2E.out.kept kF.out)
    have KWF := Lib.hid (JW.out.kept kF.out)
    have TWF := Lib.hid (TW.out.kept kF.out)
    have TY := Lib.hid (show TV.At ⟨Y, 2, yc, [1, n], Y', cl, yc', cs⟩ wF from ⟨(row_ints o1 (show 2 ≤ 9223372036854775807 by omega) hsf'.out).kept zF.out, (row_ints o2 (show cl ≤ 9223372036854775807 by omega) hcf'.out).kept zF.out, by simp, by show cl ≤ 17592186044416; omega⟩)
    clear hb3 o1 o2 GO K1E K2E JW TW
    go_upto_region 5 with (fail)
    rw [hwF.out]
    obtain ⟨v0, v1, -, -⟩ := JY.out.see
    obtain ⟨j0, j1, -, -⟩ := K1F.out.see
    go_wp2_with fail
    clear v0 v1
    clear j0 j1
    refine (EQ.out Y yc Y' yc' wF TY.out (hxg.out wF bF.out)).mono ?_
    rintro e w4 ⟨rfl, hb4⟩
    have b4 := Lib.hid (bF.out.trans (hb4.mono bF.out.size))
    have K1G := Lib.hid (K1F.out.kept hb4)
    have K2G := Lib.hid (K2F.out.kept hb4)
    have KWG := Lib.hid (KWF.out.kept hb4)
    have TWG := Lib.hid (TWF.out.kept hb4)
    clear hb4 EQ K1F K2F KWF TWF JY TY
    obtain ⟨i0, i1, -, -⟩ := K2G.out.see
    go_wp2_with fail
    clear i0 i1
    refine (RG.out w4 b4.out).mono ?_
    rintro e w5 ⟨rfl, hb5⟩
    have b5 := Lib.hid (b4.out.trans (hb5.mono b4.out.size))
    have K1H := Lib.hid (K1G.out.kept hb5)
    have K2H := Lib.hid (K2G.out.kept hb5)
    clear hb5 RG K1G K2G KWG TWG
    obtain ⟨j0, j1, -, -⟩ := K1H.out.see
    obtain ⟨i0, i1, -, -⟩ := K2H.out.see
    go_wp2_with fail
    have RS' := RS.out w5 b5.out
    refine RS'.mono ?_
    rintro e w6 ⟨rfl, m, rfl⟩
    have b6 := Lib.hid (below_drewN' b5.out m)
    clear RS RS'
    clear j0 j1
    clear i0 i1
    go_wp2_with fail
    refine (awake07_any _).mono ?_
    rintro e w9 ⟨rfl, hb9⟩
    go_wp2_with fail
    go_ret
    exact ⟨rfl, b6.out.trans (hb9.mono b6.out.size)⟩

set_option maxRecDepth 100000 in
set_option maxHeartbeats 16000000 in
theorem convOnes_good2 (b off xc : Nat) (n : Int) (ca : Option Addr) (cl cc : Nat) (cs : List Int) (G : TV) (w : World) (hx : TV.At ⟨some ⟨b, off, none⟩, 2, xc, [1, n], ca, cl, cc, cs⟩ w) (hc1 : 2 ≤ xc) (hc2 : xc ≤ 9223372036854775807) (hl : cl ≤ 200) (hr : rightT [1, n] cl = true) (hg : G.At w) (hG : gOk G [1, n] = true) :
    Calls Try.prog 7 #[.agg #[.slice (some ⟨b, off, none⟩) 2 xc, .slice ca cl cc], .agg #[.slice G.sa G.sl G.sc, .slice G.ca G.cl G.cc]] w fun e w' => e = .returned (.bool true) ∧ Below w.heap.size w w' := by
  obtain ⟨r1, r2⟩ := rightT_parts hr
  have O := ones_two r1
  have hN : (prodI [1, n]).toNat = cl := by omega
  rw [hN] at O
  obtain ⟨o1, o2, o3⟩ := O
  have hpk : rightS [1, 1, 1] = true ∧ prodI [1, 1, 1] = 1 ∧ rightT [1, 1, 1] 1 = true := by decide +kernel
  have hcs : cs.length = cl := hx.2.1.1
  have hcf : Fits cs := hx.2.1.2.2.1
  have hsf : Fits [1, n] := hx.1.2.2.1
  have hxg := Lib.hid (fun w1 (hb : Below w.heap.size w w1) => hx.kept hb)
  have hgg := Lib.hid (fun w1 (hb : Below w.heap.size w w1) => hg.kept hb)
  have F0 := Lib.hid (fun w1 (hb : Below w.heap.size w w1) => (show w1.cell? ⟨b, off, none⟩ = some (.int .i64 1) from by
    have := (hx.kept hb).1.2.2.2
    rcases this with h4 | ⟨b', off', ha, hc⟩
    · cases h4
    · simp only [Option.some.injEq, Addr.mk.injEq] at ha
      obtain ⟨rfl, rfl, -⟩ := ha
      exact hc 0 (by show 0 < 2; omega)))
  have hE : ∀ A1 p1 A2 p2, tensE ⟨A1, 3, p1, [1, 1, 1], A2, 1, p2, [4294967296]⟩ ⟨some ⟨b, off, none⟩, 2, xc, [1, n], ca, cl, cc, cs⟩ 1 = 0 := fun A1 p1 A2 p2 => (tensE_yes (W := ⟨A1, 3, p1, [1, 1, 1], A2, 1, p2, [4294967296]⟩) (x := ⟨some ⟨b, off, none⟩, 2, xc, [1, n], ca, cl, cc, cs⟩) (s := 1) hpk.2.2 hr).trans o1
  have RX := Lib.hid (fun w1 (hb : Below w.heap.size w w1) => hr ▸ rright_any (some ⟨b, off, none⟩) 2 xc [1, n] ca cl cc w1 (hx.kept hb).1 (by omega))
  have MK := Lib.hid (fun A c w1 (hI : IntsAt w1 A 3 [1, 1, 1]) => make_ok A 3 c [1, 1, 1] 4294967296 w1 hI hpk.1 1 hpk.2.1)
  have GO := Lib.hid (fun A1 p1 A2 p2 w1 (hW : TV.At ⟨A1, 3, p1, [1, 1, 1], A2, 1, p2, [4294967296]⟩ w1) (hX : TV.At ⟨some ⟨b, off, none⟩, 2, xc, [1, n], ca, cl, cc, cs⟩ w1) (hc : 3 ≤ p1 ∧ p1 ≤ 9223372036854775807) => (show Calls Try.prog 14 #[.agg #[.slice A1 3 p1, .slice A2 1 p2], .agg #[.slice (some ⟨b, off, none⟩) 2 xc, .slice ca cl cc], .int .i64 1] w1 (OkT w1 2 [1, n] cl cs) from by
    have := convgo_ok ⟨A1, 3, p1, [1, 1, 1], A2, 1, p2, [4294967296]⟩ ⟨some ⟨b, off, none⟩, 2, xc, [1, n], ca, cl, cc, cs⟩ 1 w1 hW hX hc ⟨hc1, hc2⟩ (by omega) (by omega) (hE _ _ _ _) cl (by show prodI (outS [1, 1, 1] [1, n] 1) = _; rw [o2]; exact r2.symm)
    have e : runP cl (goV [4294967296] cs) (touchL [1, 1, 1] [1, n] 1) = cs := by rw [o3]; exact ones_go hcs hcf
    simp only [e, o2] at this
    exact this))
  have EQ := Lib.hid (fun Y yc Y' yc' w1 (hY : TV.At ⟨Y, 2, yc, [1, n], Y', cl, yc', cs⟩ w1) (hX : TV.At ⟨some ⟨b, off, none⟩, 2, xc, [1, n], ca, cl, cc, cs⟩ w1) => (show Calls Try.prog 25 #[.agg #[.slice Y 2 yc, .slice Y' cl yc'], .agg #[.slice (some ⟨b, off, none⟩) 2 xc, .slice ca cl cc]] w1 fun e w' => e = .returned (.bool true) ∧ Below w1.heap.size w1 w' from by
    have := tequal_any Y 2 yc [1, n] Y' cl yc' cs (some ⟨b, off, none⟩) 2 xc [1, n] ca cl cc cs w1 hY.1 hY.2.1 hX.1 hX.2.1
    rw [show sameT [1, n] cs [1, n] cs = true by unfold sameT; rw [sameL_self, sameL_self]; rfl] at this
    exact this))
  have RG := fun w1 (hb : Below w.heap.size w w1) => rright_any G.sa G.sl G.sc G.ss G.ca G.cl G.cc w1 (hg.1.kept hb) (by have := hg.2.2.2; omega)
  have RS := fun w1 (hb : Below w.heap.size w w1) => same_any G.sa G.sl G.sc G.ss (some ⟨b, off, none⟩) 2 xc [1, n] w1 (hg.1.kept hb) (hx.kept hb).1
  obtain ⟨g1, g2⟩ := gOk_parts hG
  have hGs : G.sl = 2 := by have := hg.1.1; rw [g2] at this; exact this.symm
  have hGl : G.cl = cl := by have := (rightT_parts g1).2; rw [g2] at this; omega
  have hgl : G.cs.length = cl := by rw [← hGl]; exact hg.2.1.1
  have hgf : Fits G.cs := hg.2.1.2.2.1
  have BK := Lib.hid (fun A1 p1 A2 p2 w1 (hW : TV.At ⟨A1, 3, p1, [1, 1, 1], A2, 1, p2, [4294967296]⟩ w1) (hX : TV.At ⟨some ⟨b, off, none⟩, 2, xc, [1, n], ca, cl, cc, cs⟩ w1) (hg1 : G.At w1) (hc : 3 ≤ p1 ∧ p1 ≤ 9223372036854775807) => (show Calls Try.prog 20 #[.agg #[.slice A1 3 p1, .slice A2 1 p2], .agg #[.slice (some ⟨b, off, none⟩) 2 xc, .slice ca cl cc], .agg #[.slice G.sa G.sl G.sc, .slice G.ca G.cl G.cc], .int .i64 1] w1 (OkB w1 3 [1, 1, 1] 1 (runP 1 (backV1 G.cs cs) (touchL [1, 1, 1] [1, n] 1)) 2 [1, n] cl G.cs) from by
    have := convback_ok ⟨A1, 3, p1, [1, 1, 1], A2, 1, p2, [4294967296]⟩ ⟨some ⟨b, off, none⟩, 2, xc, [1, n], ca, cl, cc, cs⟩ G 1 w1 hW hX hg1 hc ⟨hc1, hc2⟩ (by omega) (by omega) (hE _ _ _ _) (by show gOk G (outS [1, 1, 1] [1, n] 1) = true; rw [o2]; exact hG)
    have e : runP cl (backV2 G.cs [4294967296]) (touchL [1, 1, 1] [1, n] 1) = G.cs := by rw [o3]; exact ones_back hgl hgf
    simp only [e] at this
    exact this))
  have EG := Lib.hid (fun Y yc Y' yc' w1 (h1 : IntsAt w1 Y 2 [1, n]) (h2 : IntsAt w1 Y' cl G.cs) (hb : Below w.heap.size w w1) => (show Calls Try.prog 25 #[.agg #[.slice Y 2 yc, .slice Y' cl yc'], .agg #[.slice G.sa G.sl G.sc, .slice G.ca G.cl G.cc]] w1 fun e w' => e = .returned (.bool true) ∧ Below w1.heap.size w1 w' from by
    have := tequal_any Y 2 yc [1, n] Y' cl yc' G.cs G.sa G.sl G.sc G.ss G.ca G.cl G.cc G.cs w1 h1 h2 (hg.kept hb).1 (hg.kept hb).2.1
    rw [g2, show sameT [1, n] G.cs [1, n] G.cs = true by unfold sameT; rw [sameL_self, sameL_self]; rfl] at this
    exact this))
  rw [g1] at RG
  replace RG := Lib.hid RG
  rw [g2] at RS
  simp only [sameL_self] at RS
  replace RS := Lib.hid RS
  clear g1 g2 hGs hGl hgl hgf hG
  have hsf' := Lib.hid hsf
  have hcf' := Lib.hid hcf
  have hd := Lib.hid (show decide ((200 : Int) < (cl : Int)) = false from decide_eq_false (by omega))
  clear hr r1 r2 hN o1 o2 o3 hpk hcs hcf hsf hE hx hg hc1 hc2
  obtain ⟨wA, hwA, J1, z1, n1⟩ := grid_box w (.slice (some ⟨b, off, none⟩) 2 xc) (.slice ca cl cc)
  obtain ⟨wB, hwB, J2, z2, n2⟩ := grid_box wA (.slice G.sa G.sl G.sc) (.slice G.ca G.cl G.cc)
  rw [n1.out] at J2
  have z := Lib.hid (z1.out.trans (z2.out.mono z1.out.size))
  have J1' := Lib.hid (J1.out.kept z2.out)
  have d1 := hd.out
  obtain ⟨j0, j1, -, -⟩ := J1'.out.see
  go_enter Try.func7, Try.ntmps7
  go_upto_region 1 with (fail)
  rw [hwA.out, hwB.out]
  go_wp2_with fail
  refine (RX.out wB z.out).mono ?_
  rintro e w1 ⟨rfl, hb1⟩
  obtain ⟨wD, hwD, ID, zD⟩ := ones_made w1 3 (by omega)
  have b1 := Lib.hid (z.out.trans (hb1.mono z.out.size))
  have bD := Lib.hid (b1.out.trans (zD.out.mono b1.out.size))
  have kD := Lib.hid (hb1.trans (zD.out.mono hb1.size))
  have K1 := Lib.hid (J1'.out.kept hb1)
  have K2 := Lib.hid (J2.out.kept hb1)
  have K1D := Lib.hid (K1.out.kept zD.out)
  have K2D := Lib.hid (K2.out.kept zD.out)
  have f0 := F0.out w1 b1.out
  clear hb1 RX F0 J1' J2
  clear j0 j1
  obtain ⟨j0, j1, -, -⟩ := K1.out.see
  obtain ⟨u0, u1, -, -⟩ := K1D.out.see
  have hwD' := hwD.out
  go_wp2_with fail
  clear hwD' f0 u0 u1 d1 K1 K2
  clear j0 j1
  refine (MK.out _ _ wD ID.out).mono ?_
  rintro e w2 ⟨v', rfl, A1, p1, A2, p2, rfl, o1, o2, -, hb2⟩
  have cp := Lib.hid (row_caps o1)
  obtain ⟨wE, hwE, JW, zE, nE⟩ := grid_box w2 (.slice A1 3 p1) (.slice A2 1 p2)
  have kE := Lib.hid (hb2.trans (zE.out.mono hb2.size))
  have bE := Lib.hid (bD.out.trans (kE.out.mono bD.out.size))
  have K1E := Lib.hid (K1D.out.kept kE.out)
  have K2E := Lib.hid (K2D.out.kept kE.out)
  have TW := Lib.hid (show TV.At ⟨A1, 3, p1, [1, 1, 1], A2, 1, p2, [4294967296]⟩ wE from ⟨(row_ints o1 (show 3 ≤ 9223372036854775807 by omega) (fits_few (by decide +kernel))).kept zE.out, (row_ints (zs := [4294967296]) o2 (show 1 ≤ 9223372036854775807 by omega) (fun z hz => by simp at hz; omega)).kept zE.out, by simp, by simp⟩)
  clear hb2 o1 o2 MK ID K1D K2D
  go_upto_region 4 with (fail)
  rw [hwE.out]
  obtain ⟨v0, v1, -, -⟩ := JW.out.see
  obtain ⟨j0, j1, -, -⟩ := K1E.out.see
  go_wp2_with fail
  clear v0 v1
  clear j0 j1
  refine (GO.out A1 p1 A2 p2 wE TW.out (hxg.out wE bE.out) cp.out).mono ?_
  rintro e w3 ⟨v', rfl, Y, yc, Y', yc', rfl, o1, o2, -, hb3⟩
  obtain ⟨wF, hwF, JY, zF, nF⟩ := grid_box w3 (.slice Y 2 yc) (.slice Y' cl yc')
  have kF := Lib.hid (hb3.trans (zF.out.mono hb3.size))
  have bF := Lib.hid (bE.out.trans (kF.out.mono bE.out.size))
  have K1F := Lib.hid (K1E.out.kept kF.out)
  have K2F := Lib.hid (K2E.out.kept kF.out)
  have KWF := Lib.hid (JW.out.kept kF.out)
  have TWF := Lib.hid (TW.out.kept kF.out)
  have TY := Lib.hid (show TV.At ⟨Y, 2, yc, [1, n], Y', cl, yc', cs⟩ wF from ⟨(row_ints o1 (show 2 ≤ 9223372036854775807 by omega) hsf'.out).kept zF.out, (row_ints o2 (show cl ≤ 9223372036854775807 by omega) hcf'.out).kept zF.out, by simp, by show cl ≤ 17592186044416; omega⟩)
  clear hb3 o1 o2 GO K1E K2E JW TW
  go_upto_region 5 with (fail)
  rw [hwF.out]
  obtain ⟨v0, v1, -, -⟩ := JY.out.see
  obtain ⟨j0, j1, -, -⟩ := K1F.out.see
  go_wp2_with fail
  clear v0 v1
  clear j0 j1
  refine (EQ.out Y yc Y' yc' wF TY.out (hxg.out wF bF.out)).mono ?_
  rintro e w4 ⟨rfl, hb4⟩
  have b4 := Lib.hid (bF.out.trans (hb4.mono bF.out.size))
  have K1G := Lib.hid (K1F.out.kept hb4)
  have K2G := Lib.hid (K2F.out.kept hb4)
  have KWG := Lib.hid (KWF.out.kept hb4)
  have TWG := Lib.hid (TWF.out.kept hb4)
  clear hb4 EQ K1F K2F KWF TWF JY TY
  obtain ⟨i0, i1, -, -⟩ := K2G.out.see
  go_wp2_with fail
  clear i0 i1
  refine (RG.out w4 b4.out).mono ?_
  rintro e w5 ⟨rfl, hb5⟩
  have b5 := Lib.hid (b4.out.trans (hb5.mono b4.out.size))
  have K1H := Lib.hid (K1G.out.kept hb5)
  have K2H := Lib.hid (K2G.out.kept hb5)
  clear RG
  obtain ⟨j0, j1, -, -⟩ := K1H.out.see
  obtain ⟨i0, i1, -, -⟩ := K2H.out.see
  go_wp2_with fail
  have RS' := RS.out w5 b5.out
  refine RS'.mono ?_
  rintro e wm ⟨rfl, m, rfl⟩
  have b6 := Lib.hid (below_drewN' b5.out m)
  have hb6 := hb5.trans ((below_drewN' (Below.refl w5.heap.size w5) m).mono hb5.size)
  obtain ⟨w6, hw6⟩ : ∃ w6, w5.drewN m = w6 := ⟨_, rfl⟩
  rw [hw6] at b6 hb6 ⊢
  have L1 := Lib.hid (K1G.out.kept hb6)
  have L2 := Lib.hid (K2G.out.kept hb6)
  have LW := Lib.hid (KWG.out.kept hb6)
  have TW6 := Lib.hid (TWG.out.kept hb6)
  clear j0 j1
  clear i0 i1
  clear RS RS' hb5 hb6 hw6 K1G K2G KWG TWG K1H K2H b5
  obtain ⟨j0, j1, -, -⟩ := L1.out.see
  obtain ⟨i0, i1, -, -⟩ := L2.out.see
  obtain ⟨v0, v1, -, -⟩ := LW.out.see
  go_wp2_with fail
  clear v0 v1
  clear j0 j1
  clear i0 i1
  refine (BK.out A1 p1 A2 p2 w6 TW6.out (hxg.out w6 b6.out) (hgg.out w6 b6.out) cp.out).mono ?_
  rintro e w7 ⟨B1, c1, B2, c2, B3, c3, B4, c4, rfl, y1, y2, y3, y4, hb7⟩
  obtain ⟨wH, hwH, JB, zH, nH⟩ := gd_box w7 (.slice B1 3 c1) (.slice B2 1 c2) (.slice B3 2 c3) (.slice B4 cl c4)
  have k7 := Lib.hid (hb7.trans (zH.out.mono hb7.size))
  have b7 := Lib.hid (b6.out.trans (k7.out.mono b6.out.size))
  have M2 := Lib.hid (L2.out.kept k7.out)
  have y3' := Lib.hid (y3.kept zH.out)
  have y4' := Lib.hid (y4.kept zH.out)
  clear BK hb7 y1 y2 y3 y4 L1 L2 LW TW6
  go_upto_region 10 with (fail)
  rw [hwH.out]
  obtain ⟨l0, l1, l2, l3⟩ := JB.out.see
  obtain ⟨i0, i1, -, -⟩ := M2.out.see
  go_wp2_with fail
  refine (EG.out B3 c3 B4 c4 wH y3'.out y4'.out b7.out).mono ?_
  rintro e w8 ⟨rfl, hb8⟩
  have b8 := Lib.hid (b7.out.trans (hb8.mono b7.out.size))
  clear l0 l1 l2 l3
  obtain ⟨l0, l1, l2, l3⟩ := (JB.out.kept hb8).see
  clear i0 i1
  clear EG hb8
  go_wp2_with fail
  refine (awake07_any _).mono ?_
  rintro e w9 ⟨rfl, hb9⟩
  go_wp2_with fail
  go_ret
  exact ⟨rfl, b8.out.trans (hb9.mono b8.out.size)⟩

set_option maxRecDepth 100000 in
set_option maxHeartbeats 16000000 in
theorem convOnes_bad3 (b off xc : Nat) (h n : Int) (ca : Option Addr) (cl cc : Nat) (cs : List Int) (G : TV) (w : World) (hx : TV.At ⟨some ⟨b, off, none⟩, 3, xc, [1, h, n], ca, cl, cc, cs⟩ w) (hc1 : 3 ≤ xc) (hc2 : xc ≤ 9223372036854775807) (hl : cl ≤ 200) (hr : rightT [1, h, n] cl = true) (hg : G.At w) (hG : gOk G [1, h, n] = false) :
    Calls Try.prog 7 #[.agg #[.slice (some ⟨b, off, none⟩) 3 xc, .slice ca cl cc], .agg #[.slice G.sa G.sl G.sc, .slice G.ca G.cl G.cc]] w fun e w' => e = .returned (.bool true) ∧ Below w.heap.size w w' := by
  obtain ⟨r1, r2⟩ := rightT_parts hr
  have O := ones_three r1
  have hN : (prodI [1, h, n]).toNat = cl := by omega
  rw [hN] at O
  obtain ⟨o1, o2, o3⟩ := O
  have hpk : rightS [1, 1, 1, 1] = true ∧ prodI [1, 1, 1, 1] = 1 ∧ rightT [1, 1, 1, 1] 1 = true := by decide +kernel
  have hcs : cs.length = cl := hx.2.1.1
  have hcf : Fits cs := hx.2.1.2.2.1
  have hsf : Fits [1, h, n] := hx.1.2.2.1
  have hxg := Lib.hid (fun w1 (hb : Below w.heap.size w w1) => hx.kept hb)
  have hgg := Lib.hid (fun w1 (hb : Below w.heap.size w w1) => hg.kept hb)
  have F0 := Lib.hid (fun w1 (hb : Below w.heap.size w w1) => (show w1.cell? ⟨b, off, none⟩ = some (.int .i64 1) from by
    have := (hx.kept hb).1.2.2.2
    rcases this with h4 | ⟨b', off', ha, hc⟩
    · cases h4
    · simp only [Option.some.injEq, Addr.mk.injEq] at ha
      obtain ⟨rfl, rfl, -⟩ := ha
      exact hc 0 (by show 0 < 3; omega)))
  have hE : ∀ A1 p1 A2 p2, tensE ⟨A1, 4, p1, [1, 1, 1, 1], A2, 1, p2, [4294967296]⟩ ⟨some ⟨b, off, none⟩, 3, xc, [1, h, n], ca, cl, cc, cs⟩ 1 = 0 := fun A1 p1 A2 p2 => (tensE_yes (W := ⟨A1, 4, p1, [1, 1, 1, 1], A2, 1, p2, [4294967296]⟩) (x := ⟨some ⟨b, off, none⟩, 3, xc, [1, h, n], ca, cl, cc, cs⟩) (s := 1) hpk.2.2 hr).trans o1
  have RX := Lib.hid (fun w1 (hb : Below w.heap.size w w1) => hr ▸ rright_any (some ⟨b, off, none⟩) 3 xc [1, h, n] ca cl cc w1 (hx.kept hb).1 (by omega))
  have MK := Lib.hid (fun A c w1 (hI : IntsAt w1 A 4 [1, 1, 1, 1]) => make_ok A 4 c [1, 1, 1, 1] 4294967296 w1 hI hpk.1 1 hpk.2.1)
  have GO := Lib.hid (fun A1 p1 A2 p2 w1 (hW : TV.At ⟨A1, 4, p1, [1, 1, 1, 1], A2, 1, p2, [4294967296]⟩ w1) (hX : TV.At ⟨some ⟨b, off, none⟩, 3, xc, [1, h, n], ca, cl, cc, cs⟩ w1) (hc : 4 ≤ p1 ∧ p1 ≤ 9223372036854775807) => (show Calls Try.prog 14 #[.agg #[.slice A1 4 p1, .slice A2 1 p2], .agg #[.slice (some ⟨b, off, none⟩) 3 xc, .slice ca cl cc], .int .i64 1] w1 (OkT w1 3 [1, h, n] cl cs) from by
    have := convgo_ok ⟨A1, 4, p1, [1, 1, 1, 1], A2, 1, p2, [4294967296]⟩ ⟨some ⟨b, off, none⟩, 3, xc, [1, h, n], ca, cl, cc, cs⟩ 1 w1 hW hX hc ⟨hc1, hc2⟩ (by omega) (by omega) (hE _ _ _ _) cl (by show prodI (outS [1, 1, 1, 1] [1, h, n] 1) = _; rw [o2]; exact r2.symm)
    have e : runP cl (goV [4294967296] cs) (touchL [1, 1, 1, 1] [1, h, n] 1) = cs := by rw [o3]; exact ones_go hcs hcf
    simp only [e, o2] at this
    exact this))
  have EQ := Lib.hid (fun Y yc Y' yc' w1 (hY : TV.At ⟨Y, 3, yc, [1, h, n], Y', cl, yc', cs⟩ w1) (hX : TV.At ⟨some ⟨b, off, none⟩, 3, xc, [1, h, n], ca, cl, cc, cs⟩ w1) => (show Calls Try.prog 25 #[.agg #[.slice Y 3 yc, .slice Y' cl yc'], .agg #[.slice (some ⟨b, off, none⟩) 3 xc, .slice ca cl cc]] w1 fun e w' => e = .returned (.bool true) ∧ Below w1.heap.size w1 w' from by
    have := tequal_any Y 3 yc [1, h, n] Y' cl yc' cs (some ⟨b, off, none⟩) 3 xc [1, h, n] ca cl cc cs w1 hY.1 hY.2.1 hX.1 hX.2.1
    rw [show sameT [1, h, n] cs [1, h, n] cs = true by unfold sameT; rw [sameL_self, sameL_self]; rfl] at this
    exact this))
  have RG := fun w1 (hb : Below w.heap.size w w1) => rright_any G.sa G.sl G.sc G.ss G.ca G.cl G.cc w1 (hg.1.kept hb) (by have := hg.2.2.2; omega)
  have RS := fun w1 (hb : Below w.heap.size w w1) => same_any G.sa G.sl G.sc G.ss (some ⟨b, off, none⟩) 3 xc [1, h, n] w1 (hg.1.kept hb) (hx.kept hb).1
  cases hb0 : rightT G.ss G.cl
  · rw [hb0] at RG
    replace RG := Lib.hid RG
    clear RS hb0 hG
    have hsf' := Lib.hid hsf
    have hcf' := Lib.hid hcf
    have hd := Lib.hid (show decide ((200 : Int) < (cl : Int)) = false from decide_eq_false (by omega))
    clear hr r1 r2 hN o1 o2 o3 hpk hcs hcf hsf hE hx hg hc1 hc2
    obtain ⟨wA, hwA, J1, z1, n1⟩ := grid_box w (.slice (some ⟨b, off, none⟩) 3 xc) (.slice ca cl cc)
    obtain ⟨wB, hwB, J2, z2, n2⟩ := grid_box wA (.slice G.sa G.sl G.sc) (.slice G.ca G.cl G.cc)
    rw [n1.out] at J2
    have z := Lib.hid (z1.out.trans (z2.out.mono z1.out.size))
    have J1' := Lib.hid (J1.out.kept z2.out)
    have d1 := hd.out
    obtain ⟨j0, j1, -, -⟩ := J1'.out.see
    go_enter Try.func7, Try.ntmps7
    go_upto_region 1 with (fail)
    rw [hwA.out, hwB.out]
    go_wp2_with fail
    refine (RX.out wB z.out).mono ?_
    rintro e w1 ⟨rfl, hb1⟩
    obtain ⟨wD, hwD, ID, zD⟩ := ones_made w1 4 (by omega)
    have b1 := Lib.hid (z.out.trans (hb1.mono z.out.size))
    have bD := Lib.hid (b1.out.trans (zD.out.mono b1.out.size))
    have kD := Lib.hid (hb1.trans (zD.out.mono hb1.size))
    have K1 := Lib.hid (J1'.out.kept hb1)
    have K2 := Lib.hid (J2.out.kept hb1)
    have K1D := Lib.hid (K1.out.kept zD.out)
    have K2D := Lib.hid (K2.out.kept zD.out)
    have f0 := F0.out w1 b1.out
    clear hb1 RX F0 J1' J2
    clear j0 j1
    obtain ⟨j0, j1, -, -⟩ := K1.out.see
    obtain ⟨u0, u1, -, -⟩ := K1D.out.see
    have hwD' := hwD.out
    go_wp2_with fail
    clear hwD' f0 u0 u1 d1 K1 K2
    clear j0 j1
    refine (MK.out _ _ wD ID.out).mono ?_
    rintro e w2 ⟨v', rfl, A1, p1, A2, p2, rfl, o1, o2, -, hb2⟩
    have cp := Lib.hid (row_caps o1)
    obtain ⟨wE, hwE, JW, zE, nE⟩ := grid_box w2 (.slice A1 4 p1) (.slice A2 1 p2)
    have kE := Lib.hid (hb2.trans (zE.out.mono hb2.size))
    have bE := Lib.hid (bD.out.trans (kE.out.mono bD.out.size))
    have K1E := Lib.hid (K1D.out.kept kE.out)
    have K2E := Lib.hid (K2D.out.kept kE.out)
    have TW := Lib.hid (show TV.At ⟨A1, 4, p1, [1, 1, 1, 1], A2, 1, p2, [4294967296]⟩ wE from ⟨(row_ints o1 (show 4 ≤ 9223372036854775807 by omega) (fits_few (by decide +kernel))).kept zE.out, (row_ints (zs := [4294967296]) o2 (show 1 ≤ 9223372036854775807 by omega) (fun z hz => by simp at hz; omega)).kept zE.out, by simp, by simp⟩)
    clear hb2 o1 o2 MK ID K1D K2D
    go_upto_region 4 with (fail)
    rw [hwE.out]
    obtain ⟨v0, v1, -, -⟩ := JW.out.see
    obtain ⟨j0, j1, -, -⟩ := K1E.out.see
    go_wp2_with fail
    clear v0 v1
    clear j0 j1
    refine (GO.out A1 p1 A2 p2 wE TW.out (hxg.out wE bE.out) cp.out).mono ?_
    rintro e w3 ⟨v', rfl, Y, yc, Y', yc', rfl, o1, o2, -, hb3⟩
    obtain ⟨wF, hwF, JY, zF, nF⟩ := grid_box w3 (.slice Y 3 yc) (.slice Y' cl yc')
    have kF := Lib.hid (hb3.trans (zF.out.mono hb3.size))
    have bF := Lib.hid (bE.out.trans (kF.out.mono bE.out.size))
    have K1F := Lib.hid (K1E.out.kept kF.out)
    have K2F := Lib.hid (K2E.out.kept kF.out)
    have KWF := Lib.hid (JW.out.kept kF.out)
    have TWF := Lib.hid (TW.out.kept kF.out)
    have TY := Lib.hid (show TV.At ⟨Y, 3, yc, [1, h, n], Y', cl, yc', cs⟩ wF from ⟨(row_ints o1 (show 3 ≤ 9223372036854775807 by omega) hsf'.out).kept zF.out, (row_ints o2 (show cl ≤ 9223372036854775807 by omega) hcf'.out).kept zF.out, by simp, by show cl ≤ 17592186044416; omega⟩)
    clear hb3 o1 o2 GO K1E K2E JW TW
    go_upto_region 5 with (fail)
    rw [hwF.out]
    obtain ⟨v0, v1, -, -⟩ := JY.out.see
    obtain ⟨j0, j1, -, -⟩ := K1F.out.see
    go_wp2_with fail
    clear v0 v1
    clear j0 j1
    refine (EQ.out Y yc Y' yc' wF TY.out (hxg.out wF bF.out)).mono ?_
    rintro e w4 ⟨rfl, hb4⟩
    have b4 := Lib.hid (bF.out.trans (hb4.mono bF.out.size))
    have K1G := Lib.hid (K1F.out.kept hb4)
    have K2G := Lib.hid (K2F.out.kept hb4)
    have KWG := Lib.hid (KWF.out.kept hb4)
    have TWG := Lib.hid (TWF.out.kept hb4)
    clear hb4 EQ K1F K2F KWF TWF JY TY
    obtain ⟨i0, i1, -, -⟩ := K2G.out.see
    go_wp2_with fail
    clear i0 i1
    refine (RG.out w4 b4.out).mono ?_
    rintro e w5 ⟨rfl, hb5⟩
    have b5 := Lib.hid (b4.out.trans (hb5.mono b4.out.size))
    clear hb5 RG K1G K2G KWG TWG
    go_wp2_with fail
    refine (awake07_any _).mono ?_
    rintro e w9 ⟨rfl, hb9⟩
    go_wp2_with fail
    go_ret
    exact ⟨rfl, b5.out.trans (hb9.mono b5.out.size)⟩
  · have hsm : sameL G.ss [1, h, n] = false := by
      unfold gOk at hG
      rw [hb0] at hG
      simpa using hG
    rw [hb0] at RG
    replace RG := Lib.hid RG
    simp only [hsm] at RS
    replace RS := Lib.hid RS
    clear hb0 hG hsm
    have hsf' := Lib.hid hsf
    have hcf' := Lib.hid hcf
    have hd := Lib.hid (show decide ((200 : Int) < (cl : Int)) = false from decide_eq_false (by omega))
    clear hr r1 r2 hN o1 o2 o3 hpk hcs hcf hsf hE hx hg hc1 hc2
    obtain ⟨wA, hwA, J1, z1, n1⟩ := grid_box w (.slice (some ⟨b, off, none⟩) 3 xc) (.slice ca cl cc)
    obtain ⟨wB, hwB, J2, z2, n2⟩ := grid_box wA (.slice G.sa G.sl G.sc) (.slice G.ca G.cl G.cc)
    rw [n1.out] at J2
    have z := Lib.hid (z1.out.trans (z2.out.mono z1.out.size))
    have J1' := Lib.hid (J1.out.kept z2.out)
    have d1 := hd.out
    obtain ⟨j0, j1, -, -⟩ := J1'.out.see
    go_enter Try.func7, Try.ntmps7
    go_upto_region 1 with (fail)
    rw [hwA.out, hwB.out]
    go_wp2_with fail
    refine (RX.out wB z.out).mono ?_
    rintro e w1 ⟨rfl, hb1⟩
    obtain ⟨wD, hwD, ID, zD⟩ := ones_made w1 4 (by omega)
    have b1 := Lib.hid (z.out.trans (hb1.mono z.out.size))
    have bD := Lib.hid (b1.out.trans (zD.out.mono b1.out.size))
    have kD := Lib.hid (hb1.trans (zD.out.mono hb1.size))
    have K1 := Lib.hid (J1'.out.kept hb1)
    have K2 := Lib.hid (J2.out.kept hb1)
    have K1D := Lib.hid (K1.out.kept zD.out)
    have K2D := Lib.hid (K2.out.kept zD.out)
    have f0 := F0.out w1 b1.out
    clear hb1 RX F0 J1' J2
    clear j0 j1
    obtain ⟨j0, j1, -, -⟩ := K1.out.see
    obtain ⟨u0, u1, -, -⟩ := K1D.out.see
    have hwD' := hwD.out
    go_wp2_with fail
    clear hwD' f0 u0 u1 d1 K1 K2
    clear j0 j1
    refine (MK.out _ _ wD ID.out).mono ?_
    rintro e w2 ⟨v', rfl, A1, p1, A2, p2, rfl, o1, o2, -, hb2⟩
    have cp := Lib.hid (row_caps o1)
    obtain ⟨wE, hwE, JW, zE, nE⟩ := grid_box w2 (.slice A1 4 p1) (.slice A2 1 p2)
    have kE := Lib.hid (hb2.trans (zE.out.mono hb2.size))
    have bE := Lib.hid (bD.out.trans (kE.out.mono bD.out.size))
    have K1E := Lib.hid (K1D.out.kept kE.out)
    have K2E := Lib.hid (K2D.out.kept kE.out)
    have TW := Lib.hid (show TV.At ⟨A1, 4, p1, [1, 1, 1, 1], A2, 1, p2, [4294967296]⟩ wE from ⟨(row_ints o1 (show 4 ≤ 9223372036854775807 by omega) (fits_few (by decide +kernel))).kept zE.out, (row_ints (zs := [4294967296]) o2 (show 1 ≤ 9223372036854775807 by omega) (fun z hz => by simp at hz; omega)).kept zE.out, by simp, by simp⟩)
    clear hb2 o1 o2 MK ID K1D K2D
    go_upto_region 4 with (fail)
    rw [hwE.out]
    obtain ⟨v0, v1, -, -⟩ := JW.out.see
    obtain ⟨j0, j1, -, -⟩ := K1E.out.see
    go_wp2_with fail
    clear v0 v1
    clear j0 j1
    refine (GO.out A1 p1 A2 p2 wE TW.out (hxg.out wE bE.out) cp.out).mono ?_
    rintro e w3 ⟨v', rfl, Y, yc, Y', yc', rfl, o1, o2, -, hb3⟩
    obtain ⟨wF, hwF, JY, zF, nF⟩ := grid_box w3 (.slice Y 3 yc) (.slice Y' cl yc')
    have kF := Lib.hid (hb3.trans (zF.out.mono hb3.size))
    have bF := Lib.hid (bE.out.trans (kF.out.mono bE.out.size))
    have K1F := Lib.hid (K1E.out.kept kF.out)
    have K2F := Lib.hid (K2E.out.kept kF.out)
    have KWF := Lib.hid (JW.out.kept kF.out)
    have TWF := Lib.hid (TW.out.kept kF.out)
    have TY := Lib.hid (show TV.At ⟨Y, 3, yc, [1, h, n], Y', cl, yc', cs⟩ wF from ⟨(row_ints o1 (show 3 ≤ 9223372036854775807 by omega) hsf'.out).kept zF.out, (row_ints o2 (show cl ≤ 9223372036854775807 by omega) hcf'.out).kept zF.out, by simp, by show cl ≤ 17592186044416; omega⟩)
    clear hb3 o1 o2 GO K1E K2E JW TW
    go_upto_region 5 with (fail)
    rw [hwF.out]
    obtain ⟨v0, v1, -, -⟩ := JY.out.see
    obtain ⟨j0, j1, -, -⟩ := K1F.out.see
    go_wp2_with fail
    clear v0 v1
    clear j0 j1
    refine (EQ.out Y yc Y' yc' wF TY.out (hxg.out wF bF.out)).mono ?_
    rintro e w4 ⟨rfl, hb4⟩
    have b4 := Lib.hid (bF.out.trans (hb4.mono bF.out.size))
    have K1G := Lib.hid (K1F.out.kept hb4)
    have K2G := Lib.hid (K2F.out.kept hb4)
    have KWG := Lib.hid (KWF.out.kept hb4)
    have TWG := Lib.hid (TWF.out.kept hb4)
    clear hb4 EQ K1F K2F KWF TWF JY TY
    obtain ⟨i0, i1, -, -⟩ := K2G.out.see
    go_wp2_with fail
    clear i0 i1
    refine (RG.out w4 b4.out).mono ?_
    rintro e w5 ⟨rfl, hb5⟩
    have b5 := Lib.hid (b4.out.trans (hb5.mono b4.out.size))
    have K1H := Lib.hid (K1G.out.kept hb5)
    have K2H := Lib.hid (K2G.out.kept hb5)
    clear hb5 RG K1G K2G KWG TWG
    obtain ⟨j0, j1, -, -⟩ := K1H.out.see
    obtain ⟨i0, i1, -, -⟩ := K2H.out.see
    go_wp2_with fail
    have RS' := RS.out w5 b5.out
    refine RS'.mono ?_
    rintro e w6 ⟨rfl, m, rfl⟩
    have b6 := Lib.hid (below_drewN' b5.out m)
    clear RS RS'
    clear j0 j1
    clear i0 i1
    go_wp2_with fail
    refine (awake07_any _).mono ?_
    rintro e w9 ⟨rfl, hb9⟩
    go_wp2_with fail
    go_ret
    exact ⟨rfl, b6.out.trans (hb9.mono b6.out.size)⟩

set_option maxRecDepth 100000 in
set_option maxHeartbeats 16000000 in
theorem convOnes_good3 (b off xc : Nat) (h n : Int) (ca : Option Addr) (cl cc : Nat) (cs : List Int) (G : TV) (w : World) (hx : TV.At ⟨some ⟨b, off, none⟩, 3, xc, [1, h, n], ca, cl, cc, cs⟩ w) (hc1 : 3 ≤ xc) (hc2 : xc ≤ 9223372036854775807) (hl : cl ≤ 200) (hr : rightT [1, h, n] cl = true) (hg : G.At w) (hG : gOk G [1, h, n] = true) :
    Calls Try.prog 7 #[.agg #[.slice (some ⟨b, off, none⟩) 3 xc, .slice ca cl cc], .agg #[.slice G.sa G.sl G.sc, .slice G.ca G.cl G.cc]] w fun e w' => e = .returned (.bool true) ∧ Below w.heap.size w w' := by
  obtain ⟨r1, r2⟩ := rightT_parts hr
  have O := ones_three r1
  have hN : (prodI [1, h, n]).toNat = cl := by omega
  rw [hN] at O
  obtain ⟨o1, o2, o3⟩ := O
  have hpk : rightS [1, 1, 1, 1] = true ∧ prodI [1, 1, 1, 1] = 1 ∧ rightT [1, 1, 1, 1] 1 = true := by decide +kernel
  have hcs : cs.length = cl := hx.2.1.1
  have hcf : Fits cs := hx.2.1.2.2.1
  have hsf : Fits [1, h, n] := hx.1.2.2.1
  have hxg := Lib.hid (fun w1 (hb : Below w.heap.size w w1) => hx.kept hb)
  have hgg := Lib.hid (fun w1 (hb : Below w.heap.size w w1) => hg.kept hb)
  have F0 := Lib.hid (fun w1 (hb : Below w.heap.size w w1) => (show w1.cell? ⟨b, off, none⟩ = some (.int .i64 1) from by
    have := (hx.kept hb).1.2.2.2
    rcases this with h4 | ⟨b', off', ha, hc⟩
    · cases h4
    · simp only [Option.some.injEq, Addr.mk.injEq] at ha
      obtain ⟨rfl, rfl, -⟩ := ha
      exact hc 0 (by show 0 < 3; omega)))
  have hE : ∀ A1 p1 A2 p2, tensE ⟨A1, 4, p1, [1, 1, 1, 1], A2, 1, p2, [4294967296]⟩ ⟨some ⟨b, off, none⟩, 3, xc, [1, h, n], ca, cl, cc, cs⟩ 1 = 0 := fun A1 p1 A2 p2 => (tensE_yes (W := ⟨A1, 4, p1, [1, 1, 1, 1], A2, 1, p2, [4294967296]⟩) (x := ⟨some ⟨b, off, none⟩, 3, xc, [1, h, n], ca, cl, cc, cs⟩) (s := 1) hpk.2.2 hr).trans o1
  have RX := Lib.hid (fun w1 (hb : Below w.heap.size w w1) => hr ▸ rright_any (some ⟨b, off, none⟩) 3 xc [1, h, n] ca cl cc w1 (hx.kept hb).1 (by omega))
  have MK := Lib.hid (fun A c w1 (hI : IntsAt w1 A 4 [1, 1, 1, 1]) => make_ok A 4 c [1, 1, 1, 1] 4294967296 w1 hI hpk.1 1 hpk.2.1)
  have GO := Lib.hid (fun A1 p1 A2 p2 w1 (hW : TV.At ⟨A1, 4, p1, [1, 1, 1, 1], A2, 1, p2, [4294967296]⟩ w1) (hX : TV.At ⟨some ⟨b, off, none⟩, 3, xc, [1, h, n], ca, cl, cc, cs⟩ w1) (hc : 4 ≤ p1 ∧ p1 ≤ 9223372036854775807) => (show Calls Try.prog 14 #[.agg #[.slice A1 4 p1, .slice A2 1 p2], .agg #[.slice (some ⟨b, off, none⟩) 3 xc, .slice ca cl cc], .int .i64 1] w1 (OkT w1 3 [1, h, n] cl cs) from by
    have := convgo_ok ⟨A1, 4, p1, [1, 1, 1, 1], A2, 1, p2, [4294967296]⟩ ⟨some ⟨b, off, none⟩, 3, xc, [1, h, n], ca, cl, cc, cs⟩ 1 w1 hW hX hc ⟨hc1, hc2⟩ (by omega) (by omega) (hE _ _ _ _) cl (by show prodI (outS [1, 1, 1, 1] [1, h, n] 1) = _; rw [o2]; exact r2.symm)
    have e : runP cl (goV [4294967296] cs) (touchL [1, 1, 1, 1] [1, h, n] 1) = cs := by rw [o3]; exact ones_go hcs hcf
    simp only [e, o2] at this
    exact this))
  have EQ := Lib.hid (fun Y yc Y' yc' w1 (hY : TV.At ⟨Y, 3, yc, [1, h, n], Y', cl, yc', cs⟩ w1) (hX : TV.At ⟨some ⟨b, off, none⟩, 3, xc, [1, h, n], ca, cl, cc, cs⟩ w1) => (show Calls Try.prog 25 #[.agg #[.slice Y 3 yc, .slice Y' cl yc'], .agg #[.slice (some ⟨b, off, none⟩) 3 xc, .slice ca cl cc]] w1 fun e w' => e = .returned (.bool true) ∧ Below w1.heap.size w1 w' from by
    have := tequal_any Y 3 yc [1, h, n] Y' cl yc' cs (some ⟨b, off, none⟩) 3 xc [1, h, n] ca cl cc cs w1 hY.1 hY.2.1 hX.1 hX.2.1
    rw [show sameT [1, h, n] cs [1, h, n] cs = true by unfold sameT; rw [sameL_self, sameL_self]; rfl] at this
    exact this))
  have RG := fun w1 (hb : Below w.heap.size w w1) => rright_any G.sa G.sl G.sc G.ss G.ca G.cl G.cc w1 (hg.1.kept hb) (by have := hg.2.2.2; omega)
  have RS := fun w1 (hb : Below w.heap.size w w1) => same_any G.sa G.sl G.sc G.ss (some ⟨b, off, none⟩) 3 xc [1, h, n] w1 (hg.1.kept hb) (hx.kept hb).1
  obtain ⟨g1, g2⟩ := gOk_parts hG
  have hGs : G.sl = 3 := by have := hg.1.1; rw [g2] at this; exact this.symm
  have hGl : G.cl = cl := by have := (rightT_parts g1).2; rw [g2] at this; omega
  have hgl : G.cs.length = cl := by rw [← hGl]; exact hg.2.1.1
  have hgf : Fits G.cs := hg.2.1.2.2.1
  have BK := Lib.hid (fun A1 p1 A2 p2 w1 (hW : TV.At ⟨A1, 4, p1, [1, 1, 1, 1], A2, 1, p2, [4294967296]⟩ w1) (hX : TV.At ⟨some ⟨b, off, none⟩, 3, xc, [1, h, n], ca, cl, cc, cs⟩ w1) (hg1 : G.At w1) (hc : 4 ≤ p1 ∧ p1 ≤ 9223372036854775807) => (show Calls Try.prog 20 #[.agg #[.slice A1 4 p1, .slice A2 1 p2], .agg #[.slice (some ⟨b, off, none⟩) 3 xc, .slice ca cl cc], .agg #[.slice G.sa G.sl G.sc, .slice G.ca G.cl G.cc], .int .i64 1] w1 (OkB w1 4 [1, 1, 1, 1] 1 (runP 1 (backV1 G.cs cs) (touchL [1, 1, 1, 1] [1, h, n] 1)) 3 [1, h, n] cl G.cs) from by
    have := convback_ok ⟨A1, 4, p1, [1, 1, 1, 1], A2, 1, p2, [4294967296]⟩ ⟨some ⟨b, off, none⟩, 3, xc, [1, h, n], ca, cl, cc, cs⟩ G 1 w1 hW hX hg1 hc ⟨hc1, hc2⟩ (by omega) (by omega) (hE _ _ _ _) (by show gOk G (outS [1, 1, 1, 1] [1, h, n] 1) = true; rw [o2]; exact hG)
    have e : runP cl (backV2 G.cs [4294967296]) (touchL [1, 1, 1, 1] [1, h, n] 1) = G.cs := by rw [o3]; exact ones_back hgl hgf
    simp only [e] at this
    exact this))
  have EG := Lib.hid (fun Y yc Y' yc' w1 (h1 : IntsAt w1 Y 3 [1, h, n]) (h2 : IntsAt w1 Y' cl G.cs) (hb : Below w.heap.size w w1) => (show Calls Try.prog 25 #[.agg #[.slice Y 3 yc, .slice Y' cl yc'], .agg #[.slice G.sa G.sl G.sc, .slice G.ca G.cl G.cc]] w1 fun e w' => e = .returned (.bool true) ∧ Below w1.heap.size w1 w' from by
    have := tequal_any Y 3 yc [1, h, n] Y' cl yc' G.cs G.sa G.sl G.sc G.ss G.ca G.cl G.cc G.cs w1 h1 h2 (hg.kept hb).1 (hg.kept hb).2.1
    rw [g2, show sameT [1, h, n] G.cs [1, h, n] G.cs = true by unfold sameT; rw [sameL_self, sameL_self]; rfl] at this
    exact this))
  rw [g1] at RG
  replace RG := Lib.hid RG
  rw [g2] at RS
  simp only [sameL_self] at RS
  replace RS := Lib.hid RS
  clear g1 g2 hGs hGl hgl hgf hG
  have hsf' := Lib.hid hsf
  have hcf' := Lib.hid hcf
  have hd := Lib.hid (show decide ((200 : Int) < (cl : Int)) = false from decide_eq_false (by omega))
  clear hr r1 r2 hN o1 o2 o3 hpk hcs hcf hsf hE hx hg hc1 hc2
  obtain ⟨wA, hwA, J1, z1, n1⟩ := grid_box w (.slice (some ⟨b, off, none⟩) 3 xc) (.slice ca cl cc)
  obtain ⟨wB, hwB, J2, z2, n2⟩ := grid_box wA (.slice G.sa G.sl G.sc) (.slice G.ca G.cl G.cc)
  rw [n1.out] at J2
  have z := Lib.hid (z1.out.trans (z2.out.mono z1.out.size))
  have J1' := Lib.hid (J1.out.kept z2.out)
  have d1 := hd.out
  obtain ⟨j0, j1, -, -⟩ := J1'.out.see
  go_enter Try.func7, Try.ntmps7
  go_upto_region 1 with (fail)
  rw [hwA.out, hwB.out]
  go_wp2_with fail
  refine (RX.out wB z.out).mono ?_
  rintro e w1 ⟨rfl, hb1⟩
  obtain ⟨wD, hwD, ID, zD⟩ := ones_made w1 4 (by omega)
  have b1 := Lib.hid (z.out.trans (hb1.mono z.out.size))
  have bD := Lib.hid (b1.out.trans (zD.out.mono b1.out.size))
  have kD := Lib.hid (hb1.trans (zD.out.mono hb1.size))
  have K1 := Lib.hid (J1'.out.kept hb1)
  have K2 := Lib.hid (J2.out.kept hb1)
  have K1D := Lib.hid (K1.out.kept zD.out)
  have K2D := Lib.hid (K2.out.kept zD.out)
  have f0 := F0.out w1 b1.out
  clear hb1 RX F0 J1' J2
  clear j0 j1
  obtain ⟨j0, j1, -, -⟩ := K1.out.see
  obtain ⟨u0, u1, -, -⟩ := K1D.out.see
  have hwD' := hwD.out
  go_wp2_with fail
  clear hwD' f0 u0 u1 d1 K1 K2
  clear j0 j1
  refine (MK.out _ _ wD ID.out).mono ?_
  rintro e w2 ⟨v', rfl, A1, p1, A2, p2, rfl, o1, o2, -, hb2⟩
  have cp := Lib.hid (row_caps o1)
  obtain ⟨wE, hwE, JW, zE, nE⟩ := grid_box w2 (.slice A1 4 p1) (.slice A2 1 p2)
  have kE := Lib.hid (hb2.trans (zE.out.mono hb2.size))
  have bE := Lib.hid (bD.out.trans (kE.out.mono bD.out.size))
  have K1E := Lib.hid (K1D.out.kept kE.out)
  have K2E := Lib.hid (K2D.out.kept kE.out)
  have TW := Lib.hid (show TV.At ⟨A1, 4, p1, [1, 1, 1, 1], A2, 1, p2, [4294967296]⟩ wE from ⟨(row_ints o1 (show 4 ≤ 9223372036854775807 by omega) (fits_few (by decide +kernel))).kept zE.out, (row_ints (zs := [4294967296]) o2 (show 1 ≤ 9223372036854775807 by omega) (fun z hz => by simp at hz; omega)).kept zE.out, by simp, by simp⟩)
  clear hb2 o1 o2 MK ID K1D K2D
  go_upto_region 4 with (fail)
  rw [hwE.out]
  obtain ⟨v0, v1, -, -⟩ := JW.out.see
  obtain ⟨j0, j1, -, -⟩ := K1E.out.see
  go_wp2_with fail
  clear v0 v1
  clear j0 j1
  refine (GO.out A1 p1 A2 p2 wE TW.out (hxg.out wE bE.out) cp.out).mono ?_
  rintro e w3 ⟨v', rfl, Y, yc, Y', yc', rfl, o1, o2, -, hb3⟩
  obtain ⟨wF, hwF, JY, zF, nF⟩ := grid_box w3 (.slice Y 3 yc) (.slice Y' cl yc')
  have kF := Lib.hid (hb3.trans (zF.out.mono hb3.size))
  have bF := Lib.hid (bE.out.trans (kF.out.mono bE.out.size))
  have K1F := Lib.hid (K1E.out.kept kF.out)
  have K2F := Lib.hid (K2E.out.kept kF.out)
  have KWF := Lib.hid (JW.out.kept kF.out)
  have TWF := Lib.hid (TW.out.kept kF.out)
  have TY := Lib.hid (show TV.At ⟨Y, 3, yc, [1, h, n], Y', cl, yc', cs⟩ wF from ⟨(row_ints o1 (show 3 ≤ 9223372036854775807 by omega) hsf'.out).kept zF.out, (row_ints o2 (show cl ≤ 9223372036854775807 by omega) hcf'.out).kept zF.out, by simp, by show cl ≤ 17592186044416; omega⟩)
  clear hb3 o1 o2 GO K1E K2E JW TW
  go_upto_region 5 with (fail)
  rw [hwF.out]
  obtain ⟨v0, v1, -, -⟩ := JY.out.see
  obtain ⟨j0, j1, -, -⟩ := K1F.out.see
  go_wp2_with fail
  clear v0 v1
  clear j0 j1
  refine (EQ.out Y yc Y' yc' wF TY.out (hxg.out wF bF.out)).mono ?_
  rintro e w4 ⟨rfl, hb4⟩
  have b4 := Lib.hid (bF.out.trans (hb4.mono bF.out.size))
  have K1G := Lib.hid (K1F.out.kept hb4)
  have K2G := Lib.hid (K2F.out.kept hb4)
  have KWG := Lib.hid (KWF.out.kept hb4)
  have TWG := Lib.hid (TWF.out.kept hb4)
  clear hb4 EQ K1F K2F KWF TWF JY TY
  obtain ⟨i0, i1, -, -⟩ := K2G.out.see
  go_wp2_with fail
  clear i0 i1
  refine (RG.out w4 b4.out).mono ?_
  rintro e w5 ⟨rfl, hb5⟩
  have b5 := Lib.hid (b4.out.trans (hb5.mono b4.out.size))
  have K1H := Lib.hid (K1G.out.kept hb5)
  have K2H := Lib.hid (K2G.out.kept hb5)
  clear RG
  obtain ⟨j0, j1, -, -⟩ := K1H.out.see
  obtain ⟨i0, i1, -, -⟩ := K2H.out.see
  go_wp2_with fail
  have RS' := RS.out w5 b5.out
  refine RS'.mono ?_
  rintro e wm ⟨rfl, m, rfl⟩
  have b6 := Lib.hid (below_drewN' b5.out m)
  have hb6 := hb5.trans ((below_drewN' (Below.refl w5.heap.size w5) m).mono hb5.size)
  obtain ⟨w6, hw6⟩ : ∃ w6, w5.drewN m = w6 := ⟨_, rfl⟩
  rw [hw6] at b6 hb6 ⊢
  have L1 := Lib.hid (K1G.out.kept hb6)
  have L2 := Lib.hid (K2G.out.kept hb6)
  have LW := Lib.hid (KWG.out.kept hb6)
  have TW6 := Lib.hid (TWG.out.kept hb6)
  clear j0 j1
  clear i0 i1
  clear RS RS' hb5 hb6 hw6 K1G K2G KWG TWG K1H K2H b5
  obtain ⟨j0, j1, -, -⟩ := L1.out.see
  obtain ⟨i0, i1, -, -⟩ := L2.out.see
  obtain ⟨v0, v1, -, -⟩ := LW.out.see
  go_wp2_with fail
  clear v0 v1
  clear j0 j1
  clear i0 i1
  refine (BK.out A1 p1 A2 p2 w6 TW6.out (hxg.out w6 b6.out) (hgg.out w6 b6.out) cp.out).mono ?_
  rintro e w7 ⟨B1, c1, B2, c2, B3, c3, B4, c4, rfl, y1, y2, y3, y4, hb7⟩
  obtain ⟨wH, hwH, JB, zH, nH⟩ := gd_box w7 (.slice B1 4 c1) (.slice B2 1 c2) (.slice B3 3 c3) (.slice B4 cl c4)
  have k7 := Lib.hid (hb7.trans (zH.out.mono hb7.size))
  have b7 := Lib.hid (b6.out.trans (k7.out.mono b6.out.size))
  have M2 := Lib.hid (L2.out.kept k7.out)
  have y3' := Lib.hid (y3.kept zH.out)
  have y4' := Lib.hid (y4.kept zH.out)
  clear BK hb7 y1 y2 y3 y4 L1 L2 LW TW6
  go_upto_region 10 with (fail)
  rw [hwH.out]
  obtain ⟨l0, l1, l2, l3⟩ := JB.out.see
  obtain ⟨i0, i1, -, -⟩ := M2.out.see
  go_wp2_with fail
  refine (EG.out B3 c3 B4 c4 wH y3'.out y4'.out b7.out).mono ?_
  rintro e w8 ⟨rfl, hb8⟩
  have b8 := Lib.hid (b7.out.trans (hb8.mono b7.out.size))
  clear l0 l1 l2 l3
  obtain ⟨l0, l1, l2, l3⟩ := (JB.out.kept hb8).see
  clear i0 i1
  clear EG hb8
  go_wp2_with fail
  refine (awake07_any _).mono ?_
  rintro e w9 ⟨rfl, hb9⟩
  go_wp2_with fail
  go_ret
  exact ⟨rfl, b8.out.trans (hb9.mono b8.out.size)⟩

theorem convOnes_walk (x G : TV) (w : World) (hx : x.At w ∧ x.CapS) (hg : G.At w ∧ G.CapS) :
    Calls Try.prog 7 #[.agg #[.slice x.sa x.sl x.sc, .slice x.ca x.cl x.cc], .agg #[.slice G.sa G.sl G.sc, .slice G.ca G.cl G.cc]] w fun e w' => e = .returned (.bool true) ∧ Below w.heap.size w w' := by
  by_cases h : x.sl ≤ 9 ∧ x.cl ≤ 200 ∧ rightT x.ss x.cl = true ∧ 2 ≤ x.sl ∧ x.sl ≤ 3 ∧ x.ss.getD 0 0 = 1
  case neg => exact convOnes_no x G w hx.1 h
  obtain ⟨-, h1, h2, h3, h4, h5⟩ := h
  obtain ⟨xa, xl, xc, xs, ca, cl, cc, cs⟩ := x
  obtain ⟨hA, hC1, hC2⟩ := hx
  have hl : xs.length = xl := hA.1.1
  have h3' : 2 ≤ xl := h3
  have h4' : xl ≤ 3 := h4
  obtain ⟨b, off, rfl⟩ : ∃ b off, xa = some ⟨b, off, none⟩ := by
    rcases hA.1.2.2.2 with h | ⟨b, off, ha, -⟩
    · exact absurd (show xl = 0 from h) (by omega)
    · exact ⟨b, off, ha⟩
  match xs, hl, xl, h3', h4' with
  | [a, n], _, 2, _, _ =>
    obtain rfl : a = 1 := by simpa using h5
    cases hG : gOk G [1, n]
    · exact convOnes_bad2 b off xc n ca cl cc cs G w hA hC1 hC2 h1 h2 hg.1 hG
    · exact convOnes_good2 b off xc n ca cl cc cs G w hA hC1 hC2 h1 h2 hg.1 hG
  | [a, h, n], _, 3, _, _ =>
    obtain rfl : a = 1 := by simpa using h5
    cases hG : gOk G [1, h, n]
    · exact convOnes_bad3 b off xc h n ca cl cc cs G w hA hC1 hC2 h1 h2 hg.1 hG
    · exact convOnes_good3 b off xc h n ca cl cc cs G w hA hC1 hC2 h1 h2 hg.1 hG
end Go.Proofs.Ytapelgjnnccfoaa

