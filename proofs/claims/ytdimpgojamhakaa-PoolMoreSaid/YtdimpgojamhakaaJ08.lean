import Derived.Test.YtdimpgojamhakaaJ01
import Derived.Test.YtdimpgojamhakaaJ02
import Derived.Test.YtdimpgojamhakaaJ05
import Derived.Test.YtdimpgojamhakaaJ07
/-
  A tensor in a box of its own; the cut behind a region with a call and an alloc. (Moved here from TJoinsB and DenseE.)
-/
namespace Go.Proofs.Ytdimpgojamhakaa
open Go.RowKit
set_option linter.unusedVariables false
set_option linter.unusedSimpArgs false

/-- A tensor in a box of its own: the box's block, the two slices, the world. -/
structure BoxQ where
  B : Nat
  A8 : Option Addr
  c8 : Nat
  A9 : Option Addr
  c9 : Nat
  W : World
def BoxP (w0 : World) (sl : Nat) (ss : List Int) (cl : Nat) (cs : List Int) (q : BoxQ) : Prop :=
  IntsAt q.W q.A8 sl ss ∧ IntsAt q.W q.A9 cl cs ∧ GAt q.W q.B (.slice q.A8 sl q.c8) (.slice q.A9 cl q.c9) ∧ Below w0.heap.size w0 q.W
theorem box_after {w0 w1 w7 : World} {sl cl c8 c9 : Nat} {ss cs : List Int} {A8 A9 : Option Addr} (hb : Below w0.heap.size w0 w1) (o8 : w7.ownsRow w1.heap.size 3 1 (.slice A8 sl c8) sl (ss.map (Value.int .i64))) (o9 : w7.ownsRow w1.heap.size 49 1 (.slice A9 cl c9) cl (cs.map (Value.int .i64))) (hb7 : Below w1.heap.size w1 w7)
    (h1 : sl ≤ 9223372036854775807) (h2 : cl ≤ 9223372036854775807) (f1 : Fits ss) (f2 : Fits cs) : BoxP w0 sl ss cl cs ⟨w7.heap.size, A8, c8, A9, c9, w7.alloc (.cells #[.slice A8 sl c8, .slice A9 cl c9] 34)⟩ := by
  have hb8 := hb.trans (hb7.mono hb.size)
  exact ⟨row_ints (o8.alloc _) h1 f1, row_ints (o9.alloc _) h2 f2, World.alloc_heap_new w7 _, hb8.alloc hb8.size _⟩
theorem box_before {w0 w1 w7 : World} {sl cl c8 c9 : Nat} {ss cs : List Int} {A8 A9 : Option Addr} {s c : Value} (hw : w0.heap.size < w1.heap.size) (hg : GAt w1 w0.heap.size s c) (hb : Below w0.heap.size w0 w1) (o8 : w7.ownsRow w1.heap.size 3 1 (.slice A8 sl c8) sl (ss.map (Value.int .i64))) (o9 : w7.ownsRow w1.heap.size 49 1 (.slice A9 cl c9) cl (cs.map (Value.int .i64))) (hb7 : Below w1.heap.size w1 w7)
    (h1 : sl ≤ 9223372036854775807) (h2 : cl ≤ 9223372036854775807) (f1 : Fits ss) (f2 : Fits cs) : BoxP w0 sl ss cl cs ⟨w0.heap.size, A8, c8, A9, c9, (w7.setCell ⟨w0.heap.size, 0, none⟩ (.slice A8 sl c8)).setCell ⟨w0.heap.size, 1, none⟩ (.slice A9 cl c9)⟩ := by
  have hb8 := hb.trans (hb7.mono hb.size)
  exact ⟨row_ints (row_far (row_far o8 hw) hw) h1 f1, row_ints (row_far (row_far o9 hw) hw) h2 f2, (hg.kept hb7).set _ _, (hb8.setCell (Nat.le_refl _) _).setCell (Nat.le_refl _) _⟩
theorem wp_cutP {P : Program} {c : Code} {Q : Exit → Act → World → Prop} {K : Act → World → Prop} {a : Act} {w : World} {ι : Type} (H : ι → Prop) (f : ι → Act → Act) (w₀ : ι → World)
    (h : c.wp P (CutP H f w₀ a) a w) (hk : ∀ x, H x → K (f x a) (w₀ x)) : c.wp P (Exit.then K Q) a w :=
  Code.wp_mono (by rintro e a' w' ⟨x, hx, rfl, rfl, rfl⟩; exact hk x hx) h
end Go.Proofs.Ytdimpgojamhakaa

/-
  The walk of the statement PoolWhole.
-/
namespace Go.Proofs.Ytdimpgojamhakaa
open Go.RowKit
set_option linter.unusedVariables false
set_option linter.unusedSimpArgs false

theorem box_put {w0 V : World} {K sl cl c8 c9 : Nat} {ss cs : List Int} {A8 A9 : Option Addr} {s c : Value} (hg : GAt V K s c) (hK : w0.heap.size ≤ K) (hb : Below w0.heap.size w0 V) (i8 : IntsAt V A8 sl ss) (i9 : IntsAt V A9 cl cs) (h8 : ∀ p, A8 = some p → p.block ≠ K) (h9 : ∀ p, A9 = some p → p.block ≠ K) :
    BoxP w0 sl ss cl cs ⟨K, A8, c8, A9, c9, (V.setCell ⟨K, 0, none⟩ (.slice A8 sl c8)).setCell ⟨K, 1, none⟩ (.slice A9 cl c9)⟩ := by
  have hO := ((Only.refl K V).setCell 0 (.slice A8 sl c8)).setCell 1 (.slice A9 cl c9)
  exact ⟨hO.ints i8 h8, hO.ints i9 h9, hg.set _ _, (hb.setCell (p := ⟨K, 0, none⟩) hK _).setCell (p := ⟨K, 1, none⟩) hK _⟩
theorem lastI_in {xs : List Int} (h : rightS xs = true) : 1 ≤ lastI xs ∧ lastI xs ≤ 1024 := by
  obtain ⟨p1, -, p3, -⟩ := rightS_parts h
  refine allR_mem p3 ?_
  have hl : xs.length - 1 < xs.length := by omega
  unfold lastI
  simp [List.getD, List.getElem?_eq_getElem hl]
/-- A window over the whole side, and one of one cell. -/
theorem pool_whole {xs : List Int} (h : rightS xs = true) : ∃ side R : Nat, lastI xs = side ∧ psE xs side 1 = 0 ∧ psE xs 1 1 = 0 ∧ PoolN xs side 1 side side 1 1 R ∧ PoolN xs 1 1 side 1 1 side R ∧ psS xs 1 1 = xs := by
  obtain ⟨b1, b2⟩ := lastI_in h
  obtain ⟨side, hs⟩ := nat_of (z := lastI xs) (by omega)
  have e1 : psE xs side 1 = 0 := by rw [psE_right h, hs]; exact winE_zero (by omega)
  have e2 : psE xs 1 1 = 0 := by rw [psE_right h, hs]; exact winE_zero (by omega)
  obtain ⟨side1, w1, s1, n1, R1, h1⟩ := pool_numbers e1
  obtain ⟨side2, w2, s2, n2, R2, h2⟩ := pool_numbers e2
  obtain rfl : side = side1 := by have := h1.last; omega
  obtain rfl : side = side2 := by have := h2.last; omega
  obtain rfl : side = w1 := by have := h1.wdE; omega
  obtain rfl : 1 = s1 := by have := h1.stE; omega
  obtain rfl : 1 = w2 := by have := h2.wdE; omega
  obtain rfl : 1 = s2 := by have := h2.stE; omega
  obtain rfl : 1 = n1 := by have := h1.nE; rw [this]; unfold winC; rw [if_pos ⟨by omega, by omega, Nat.le_refl _⟩]; simp
  obtain rfl : side = n2 := by have := h2.nE; rw [this]; unfold winC; rw [if_pos ⟨by omega, by omega, by omega⟩]; simp; omega
  obtain rfl : R1 = R2 := by
    have a := h1.cells
    have b := h2.cells
    rw [a] at b
    have : R1 * side = R2 * side := by omega
    exact Nat.eq_of_mul_eq_mul_right (by omega) this
  refine ⟨side, R1, hs, e1, e2, h1, h2, ?_⟩
  unfold psS
  rw [h2.winN, ← hs]
  exact set_same (rightS_parts h).1
theorem goL_one {xs : List Int} {side R : Nat} (h : PoolN xs 1 1 side 1 1 side R) (kd : Int) {cs : List Int} (hf : Fits cs) (hl : cs.length = R * side) : goL kd cs 1 (winsL side 1 side R) = cs := by
  rw [goL_rows h]
  have e : rowsL (fun row => poolL kd row 1 1 side) cs side R = rowsL id cs side R := by
    unfold rowsL
    refine partsL_congr fun r hr => ?_
    have hlen : ((cs.drop (r * side)).take side).length = side := by
      rw [List.length_take, List.length_drop, hl]
      have := Nat.mul_le_mul_right side hr
      rw [Nat.succ_mul] at this
      omega
    have hfr : Fits ((cs.drop (r * side)).take side) := fun z hz => hf z (List.mem_of_mem_drop (List.mem_of_mem_take hz))
    have := poolL_id (kind := kd) hfr
    rw [hlen] at this
    exact this
  rw [e, rowsL_id, List.take_of_length_le (by omega)]

set_option maxRecDepth 100000 in
set_option maxHeartbeats 4000000 in
theorem poolWhole_no (kd : Int) (x : TV) (w : World) (hx : x.At w) (hn : ¬ (x.sl ≤ 9 ∧ x.cl ≤ 600 ∧ rightT x.ss x.cl = true ∧ (kd = 1 ∨ kd = 2))) :
    Calls Try.prog 7 #[.int .i64 kd, .agg #[.slice x.sa x.sl x.sc, .slice x.ca x.cl x.cc]] w fun e w' => e = .returned (.bool true) ∧ Below w.heap.size w w' := by
  obtain ⟨wA, hwA, J1, z1, n1⟩ := grid_box w (.slice x.sa x.sl x.sc) (.slice x.ca x.cl x.cc)
  obtain ⟨j0, j1, -, -⟩ := J1.out.see
  have RG := rright8_any x.sa x.sl x.sc x.ss x.ca x.cl x.cc wA (hx.1.kept z1.out) (by have := hx.2.2.2; omega)
  have hsl : x.sl ≤ 17592186044416 := hx.2.2.1
  have hcl : x.cl ≤ 17592186044416 := hx.2.2.2
  clear hx
  by_cases c1 : x.sl ≤ 9
  case neg =>
    have d1 : (9 : Int) < (x.sl : Int) := by omega
    clear hn RG
    go_enter Try.func7, Try.ntmps7
    go_upto_region 1 with (fail)
    rw [hwA.out]
    go_wp2_with fail
    refine (awake08_any _).mono ?_
    rintro e w2 ⟨rfl, hb⟩
    go_wp2_with fail
    go_ret
    exact ⟨rfl, z1.out.trans (hb.mono z1.out.size)⟩
  have d1 : ¬ (9 : Int) < (x.sl : Int) := by omega
  by_cases c2 : x.cl ≤ 600
  case neg =>
    have d2 : (600 : Int) < (x.cl : Int) := by omega
    clear hn RG
    go_enter Try.func7, Try.ntmps7
    go_upto_region 1 with (fail)
    rw [hwA.out]
    go_wp2_with fail
    refine (awake08_any _).mono ?_
    rintro e w2 ⟨rfl, hb⟩
    go_wp2_with fail
    go_ret
    exact ⟨rfl, z1.out.trans (hb.mono z1.out.size)⟩
  have d2 : ¬ (600 : Int) < (x.cl : Int) := by omega
  cases c3 : rightT x.ss x.cl
  · rw [c3] at RG
    replace RG := Lib.hid RG
    clear hn c3
    go_enter Try.func7, Try.ntmps7
    go_upto_region 1 with (fail)
    rw [hwA.out]
    go_wp2_with fail
    refine RG.out.mono ?_
    rintro e w1 ⟨rfl, hb1⟩
    have bz := Lib.hid (z1.out.trans (hb1.mono z1.out.size))
    clear hb1 RG
    go_wp2_with fail
    refine (awake08_any _).mono ?_
    rintro e w2 ⟨rfl, hb⟩
    go_wp2_with fail
    go_ret
    exact ⟨rfl, bz.out.trans (hb.mono bz.out.size)⟩
  · rw [c3] at RG
    replace RG := Lib.hid RG
    have k1 : (kd != 1) = true := bne_iff_ne.2 fun h => hn ⟨c1, c2, c3, .inl h⟩
    have k2 : (kd != 2) = true := bne_iff_ne.2 fun h => hn ⟨c1, c2, c3, .inr h⟩
    clear hn c3
    go_enter Try.func7, Try.ntmps7
    go_upto_region 1 with (fail)
    rw [hwA.out]
    go_wp2_with fail
    refine RG.out.mono ?_
    rintro e w1 ⟨rfl, hb1⟩
    have bz := Lib.hid (z1.out.trans (hb1.mono z1.out.size))
    clear hb1 RG
    go_wp2_with fail
    refine (awake08_any _).mono ?_
    rintro e w2 ⟨rfl, hb⟩
    go_wp2_with fail
    go_ret
    exact ⟨rfl, bz.out.trans (hb.mono bz.out.size)⟩

set_option maxRecDepth 100000 in
set_option maxHeartbeats 16000000 in
theorem poolWhole_1 (x : TV) (w : World) (hx : x.At w ∧ x.Cap) (c1 : x.sl ≤ 9) (c2 : x.cl ≤ 600) (c3 : rightT x.ss x.cl = true) :
    Calls Try.prog 7 #[.int .i64 1, .agg #[.slice x.sa x.sl x.sc, .slice x.ca x.cl x.cc]] w fun e w' => e = .returned (.bool true) ∧ Below w.heap.size w w' := by
  obtain ⟨hr1, hr2⟩ := rightT_parts c3
  obtain ⟨p1, p2, -, -⟩ := rightS_parts hr1
  obtain ⟨side, R, hlastE, e1, e2, hp1, hp2, hss⟩ := pool_whole hr1
  have hcl : x.cl = R * side := by have := hp1.cells; omega
  have hsl : x.ss.length = x.sl := hx.1.1.1
  have h1 : (1 : Int) = 1 ∨ (1 : Int) = 2 := by decide
  have E1 : kindE 1 x.ss x.cl side 1 = 0 := by rw [kindE_right h1 c3]; exact e1
  have E2 : kindE 1 x.ss x.cl 1 1 = 0 := by rw [kindE_right h1 c3]; exact e2
  have hgo := goL_one hp2 1 hx.1.2.1.2.2.1 (hx.1.2.1.1.trans hcl)
  have GO1 := fun w1 (hb : Below w.heap.size w w1) => pgo_ok 1 x side 1 side side 1 1 R w1 (hx.1.kept hb) hx.2 E1 hp1
  have GO2 := fun w1 (hb : Below w.heap.size w w1) => pgo_ok 1 x 1 1 side 1 1 side R w1 (hx.1.kept hb) hx.2 E2 hp2
  rw [hgo, hss, ← hcl, hsl] at GO2
  have HOF := Lib.hid (psS_fits e1)
  have HYF : Hid (Fits (goL 1 x.cs side (winsL side 1 1 R))) := Lib.hid (by
    intro t ht
    unfold goL at ht
    obtain ⟨p, -, rfl⟩ := List.mem_map.1 ht
    unfold poolA
    split
    · exact maxN_fits hx.1.2.1.2.2.1 _ _
    · exact divF_bounds _ _)
  have HXS := Lib.hid hx.1.1.2.2.1
  have HXF := Lib.hid hx.1.2.1.2.2.1
  have HAT := Lib.hid (fun w1 (hb : Below w.heap.size w w1) => hx.1.kept hb)
  have RG := Lib.hid (fun w1 (hb : Below w.heap.size w w1) => c3 ▸ rright8_any x.sa x.sl x.sc x.ss x.ca x.cl x.cc w1 ((hx.1.1.kept hb)) (by have := hx.1.2.2.2; omega))
  obtain ⟨k, hk⟩ : ∃ k, x.sl = k + 1 := ⟨x.sl - 1, by omega⟩
  obtain ⟨sb, so, hsa, hscell⟩ := ints_cell hx.1.1 (by omega)
  have hlast : x.ss.getD k 0 = side := by rw [← hlastE]; unfold lastI; rw [hsl, hk]; rfl
  have hsc := hscell k (by omega)
  rw [hlast] at hsc
  have HSC := Lib.hid (fun w1 (hb : Below w.heap.size w w1) => cell_later hb hsc)
  have ek : (x.sl : Int) - 1 = (k : Int) := by omega
  have ek0 : (0 : Int) ≤ (k : Int) := by omega
  have ek2 : (k : Int) < (x.sl : Int) := by omega
  have ek3 : IntKind.i64.wrap (k : Int) = (k : Int) := IntWalk.i64_in _ (by omega)
  have d1 : ¬ (9 : Int) < (x.sl : Int) := by omega
  have d2 : ¬ (600 : Int) < (x.cl : Int) := by omega
  have hR6 : R ≤ 65536 := Nat.le_trans (Nat.le_mul_of_pos_right R (by have := hp1.ws; have := hp1.w1; omega)) hp1.most
  have hmul : IntKind.i64.wrap ((R : Int) * (side : Int)) = (x.cl : Int) := wmul hcl.symm (by omega)
  obtain ⟨cl, hclE⟩ : ∃ cl, x.cl = cl := ⟨_, rfl⟩
  rw [hclE] at d2 GO2 hmul c2
  simp only [hclE] at RG
  obtain ⟨os, hos⟩ : ∃ os, psS x.ss (side : Int) 1 = os := ⟨_, rfl⟩
  obtain ⟨ys, hys⟩ : ∃ ys, goL 1 x.cs side (winsL side 1 1 R) = ys := ⟨_, rfl⟩
  rw [hos] at HOF
  rw [hys] at HYF
  rw [hos, hys, hsl, Nat.mul_one, hclE] at GO1
  rw [hclE]
  rw [hsa] at GO1 GO2 ⊢
  simp only [hsa] at RG
  have ATE := Lib.hid (fun w1 (hb : Below w.heap.size w w1) (Z8 Z9 : Option Addr) (z8 z9 : Nat) (i8 : IntsAt w1 Z8 x.sl x.ss) (i9 : IntsAt w1 Z9 cl x.cs) => tequal_any Z8 x.sl z8 x.ss Z9 cl z9 x.cs (some ⟨sb, so, none⟩) x.sl x.sc x.ss x.ca cl x.cc x.cs w1 i8 i9 (by have := (HAT.out w1 hb).1; rw [hsa] at this; exact this) (by have := (HAT.out w1 hb).2.1; rw [hclE] at this; exact this))
  replace GO1 := Lib.hid GO1
  replace GO2 := Lib.hid GO2
  clear hr1 hr2 p1 p2 hlastE e1 e2 hp1 hp2 hss hcl hsl E1 E2 hgo hx c3 hk hsa hscell hlast hsc hos hys hclE HAT h1
  obtain ⟨wA, hwA, J1, z1, n1⟩ := grid_box w (.slice (some ⟨sb, so, none⟩) x.sl x.sc) (.slice x.ca cl x.cc)
  obtain ⟨j0, j1, -, -⟩ := J1.out.see
  go_enter Try.func7, Try.ntmps7
  go_upto_region 1 with (fail)
  rw [hwA.out]
  go_wp2_with fail
  refine (RG.out wA z1.out).mono ?_
  rintro e w1 ⟨rfl, hb1⟩
  have b1 := Lib.hid (z1.out.trans (hb1.mono z1.out.size))
  have K1 := Lib.hid (J1.out.kept hb1)
  replace GO1 := Lib.hid (fun w2 (hb : Below w1.heap.size w1 w2) => GO1.out w2 (b1.out.trans (hb.mono b1.out.size)))
  have SK := Lib.hid (fun w' (hb : Below w1.heap.size w1 w') => (show w'.cell? ⟨w.heap.size, 0, none⟩ = some (.slice (some ⟨sb, so, none⟩) x.sl x.sc) ∧ w'.cell? ⟨w.heap.size, 1, none⟩ = some (.slice x.ca cl x.cc) ∧ w'.cell? ⟨sb, so + k, none⟩ = some (.int .i64 side) from ⟨(K1.out.kept hb).see.1, (K1.out.kept hb).see.2.1, HSC.out w' (b1.out.trans (hb.mono b1.out.size))⟩))
  have t1 := Lib.hid (show Below w1.heap.size w1 w1.drew from (Below.refl _ _).drew)
  obtain ⟨V1, hV1⟩ : ∃ V1, (w1.alloc (.cells #[.slice none 0 0, .slice none 0 0] 34)).drew = V1 := ⟨_, rfl⟩
  have HV1 := Lib.hid hV1
  have JV1 := Lib.hid (show GAt V1 w1.heap.size (.slice none 0 0) (.slice none 0 0) by rw [← hV1]; exact World.alloc_heap_new w1 _)
  have bV1 := Lib.hid (show Below w1.heap.size w1 V1 by rw [← hV1]; exact ((Below.refl _ _).alloc (Nat.le_refl _) _).drew)
  have sV1 := Lib.hid (show w1.heap.size < V1.heap.size by rw [← hV1]; show w1.heap.size < (w1.alloc _).heap.size; simp)
  clear hb1 RG j0 j1 hV1
  go_upto_region 3 with (fail)
  refine wp_cutP (ι := BoxQ) (BoxP w1 x.sl os R ys) (fun q a => ((((((((((((((((a.put (some 34) (.int .i64 1)).put (some 35) (.agg #[.slice (some ⟨sb, so, none⟩) x.sl x.sc, .slice x.ca cl x.cc])).put (some 36) (.pointer (some ⟨w.heap.size, 0, none⟩))).put (some 37) (.slice (some ⟨sb, so, none⟩) x.sl x.sc)).put (some 38) (.pointer (some ⟨w.heap.size, 0, none⟩))).put (some 39) (.slice (some ⟨sb, so, none⟩) x.sl x.sc)).put (some 40) (.int .i64 x.sl)).put (some 41) (.int .i64 k)).put (some 42) (.pointer (some ⟨sb, so + k, none⟩))).put (some 43) (.int .i64 side)).put (some 44) (.tuple #[.agg #[.slice q.A8 x.sl q.c8, .slice q.A9 R q.c9], .int .i64 0])).put (some 33) (.tuple #[.agg #[.slice q.A8 x.sl q.c8, .slice q.A9 R q.c9], .int .i64 0])).put (some 45) (.agg #[.slice q.A8 x.sl q.c8, .slice q.A9 R q.c9])).put (some 46) (.int .i64 0)).put (some 5) (.pointer (some ⟨q.B, 0, none⟩))).put (some 6) (.int .i64 0))) (fun q => q.W) ?_ ?_
  · refine wp_region_held_drew (S := fun w' => w'.cell? ⟨w.heap.size, 0, none⟩ = some (.slice (some ⟨sb, so, none⟩) x.sl x.sc) ∧ w'.cell? ⟨w.heap.size, 1, none⟩ = some (.slice x.ca cl x.cc) ∧ w'.cell? ⟨sb, so + k, none⟩ = some (.int .i64 side)) (by kernel_rfl) (SK.out _ t1.out) (fun hHeld => ?_)
    refine held_take 0 (.int .i64 1) rfl (by kernel_rfl) (by kernel_rfl) (by kernel_rfl) (fun _ _ _ h => by obtain ⟨_, _, h, _⟩ := h; cases h) (by rfl) (by intro w' hS; go_simp) (by assumption) ?_
    try simp only [Act.put, List.setIfInBounds_toArray, List.set_cons_zero, List.set_cons_succ]
    refine held_take 1 (.agg #[.slice (some ⟨sb, so, none⟩) x.sl x.sc, .slice x.ca cl x.cc]) rfl (by kernel_rfl) (by kernel_rfl) (by kernel_rfl) (fun _ _ _ h => by obtain ⟨_, _, h, _⟩ := h; cases h) (by rfl) (by intro w' hS; go_simp) (by assumption) ?_
    try simp only [Act.put, List.setIfInBounds_toArray, List.set_cons_zero, List.set_cons_succ]
    refine held_take 2 (.pointer (some ⟨w.heap.size, 0, none⟩)) rfl (by kernel_rfl) (by kernel_rfl) (by kernel_rfl) (fun _ _ _ h => by obtain ⟨_, _, h, _⟩ := h; cases h) (by rfl) (by intro w' hS; go_simp) (by assumption) ?_
    try simp only [Act.put, List.setIfInBounds_toArray, List.set_cons_zero, List.set_cons_succ]
    refine held_take 3 (.slice (some ⟨sb, so, none⟩) x.sl x.sc) rfl (by kernel_rfl) (by kernel_rfl) (by kernel_rfl) (fun _ _ _ h => by obtain ⟨_, _, h, _⟩ := h; cases h) (by rfl) (by intro w' hS; go_simp) (by assumption) ?_
    try simp only [Act.put, List.setIfInBounds_toArray, List.set_cons_zero, List.set_cons_succ]
    refine held_take 4 (.pointer (some ⟨w.heap.size, 0, none⟩)) rfl (by kernel_rfl) (by kernel_rfl) (by kernel_rfl) (fun _ _ _ h => by obtain ⟨_, _, h, _⟩ := h; cases h) (by rfl) (by intro w' hS; go_simp) (by assumption) ?_
    try simp only [Act.put, List.setIfInBounds_toArray, List.set_cons_zero, List.set_cons_succ]
    refine held_take 5 (.slice (some ⟨sb, so, none⟩) x.sl x.sc) rfl (by kernel_rfl) (by kernel_rfl) (by kernel_rfl) (fun _ _ _ h => by obtain ⟨_, _, h, _⟩ := h; cases h) (by rfl) (by intro w' hS; go_simp) (by assumption) ?_
    try simp only [Act.put, List.setIfInBounds_toArray, List.set_cons_zero, List.set_cons_succ]
    refine held_take 6 (.int .i64 x.sl) rfl (by kernel_rfl) (by kernel_rfl) (by kernel_rfl) (fun _ _ _ h => by obtain ⟨_, _, h, _⟩ := h; cases h) (by rfl) (by intro w' hS; go_simp) (by assumption) ?_
    try simp only [Act.put, List.setIfInBounds_toArray, List.set_cons_zero, List.set_cons_succ]
    refine held_take 7 (.int .i64 k) rfl (by kernel_rfl) (by kernel_rfl) (by kernel_rfl) (fun _ _ _ h => by obtain ⟨_, _, h, _⟩ := h; cases h) (by rfl) (by intro w' hS; go_simp) (by assumption) ?_
    try simp only [Act.put, List.setIfInBounds_toArray, List.set_cons_zero, List.set_cons_succ]
    refine held_take 8 (.pointer (some ⟨sb, so + k, none⟩)) rfl (by kernel_rfl) (by kernel_rfl) (by kernel_rfl) (fun _ _ _ h => by obtain ⟨_, _, h, _⟩ := h; cases h) (by rfl) (by intro w' hS; go_simp) (by assumption) ?_
    try simp only [Act.put, List.setIfInBounds_toArray, List.set_cons_zero, List.set_cons_succ]
    refine held_take 9 (.int .i64 side) rfl (by kernel_rfl) (by kernel_rfl) (by kernel_rfl) (fun _ _ _ h => by obtain ⟨_, _, h, _⟩ := h; cases h) (by rfl) (by intro w' hS; go_simp) (by assumption) ?_
    try simp only [Act.put, List.setIfInBounds_toArray, List.set_cons_zero, List.set_cons_succ]
    refine held_two 10 14 (by kernel_rfl) rfl rfl (by rfl) (by rfl) (fun K hK => ?_) (fun K hK => ?_)
    · go_simp
      refine (GO1.out w1.drew t1.out).mono ?_
      rintro e w2 ⟨v', rfl, A8, c8, A9, c9, rfl, o8, o9, -, hb7⟩
      have b7 := t1.out.trans (hb7.mono t1.out.size)
      obtain ⟨V, hV, JV, zV, nV⟩ := grid_box w2 (.slice none 0 0) (.slice none 0 0)
      have b7h := Lib.hid b7
      have bV := Lib.hid (b7.trans (zV.out.mono b7.size))
      have I8 := Lib.hid ((row_ints o8 (by omega) HOF.out).kept zV.out)
      have I9 := Lib.hid ((row_ints o9 (by omega) HYF.out).kept zV.out)
      have hK8 : ∀ p, A8 = some p → p.block ≠ w2.heap.size := fun p hp e => by subst hp; have := (o8.lt p.block rfl).2; omega
      have hK9 : ∀ p, A9 = some p → p.block ≠ w2.heap.size := fun p hp e => by subst hp; have := (o9.lt p.block rfl).2; omega
      have hKb : w1.heap.size ≤ w2.heap.size := b7.size
      clear o8 o9 hb7 b7
      go_wp2_with fail
      refine hK.out _ _ (SK.out _ b7h.out) (fun hHeld => ?_)
      try simp only [Act.put, List.setIfInBounds_toArray, List.set_cons_zero, List.set_cons_succ]
      refine held_take 11 (.tuple #[.agg #[.slice A8 x.sl c8, .slice A9 R c9], .int .i64 0]) rfl (by kernel_rfl) (by kernel_rfl) (by kernel_rfl) (fun _ _ _ h => by obtain ⟨_, _, h, _⟩ := h; cases h) (by rfl) (by intro w' hS; go_simp) (by assumption) ?_
      try simp only [Act.put, List.setIfInBounds_toArray, List.set_cons_zero, List.set_cons_succ]
      refine held_take 12 (.agg #[.slice A8 x.sl c8, .slice A9 R c9]) rfl (by kernel_rfl) (by kernel_rfl) (by kernel_rfl) (fun _ _ _ h => by obtain ⟨_, _, h, _⟩ := h; cases h) (by rfl) (by intro w' hS; go_simp) (by assumption) ?_
      try simp only [Act.put, List.setIfInBounds_toArray, List.set_cons_zero, List.set_cons_succ]
      refine held_take 13 (.int .i64 0) rfl (by kernel_rfl) (by kernel_rfl) (by kernel_rfl) (fun _ _ _ h => by obtain ⟨_, _, h, _⟩ := h; cases h) (by rfl) (by intro w' hS; go_simp) (by assumption) ?_
      try simp only [Act.put, List.setIfInBounds_toArray, List.set_cons_zero, List.set_cons_succ]
      refine held_call 14 (by kernel_rfl) rfl (by rfl) (fun K hK => ?_)
      go_simp
      rw [hV.out]
      refine hK.out _ _ (SK.out _ bV.out) (fun hHeld => ?_)
      try simp only [Act.put, List.setIfInBounds_toArray, List.set_cons_zero, List.set_cons_succ]
      obtain ⟨e0, e1, f0, f1⟩ := JV.out.see
      have F8 := Lib.hid (box_put (c8 := c8) (c9 := c9) JV.out hKb bV.out I8.out I9.out hK8 hK9)
      clear hK8 hK9
      refine held_call 15 (by kernel_rfl) rfl (by rfl) (fun K hK => ?_)
      go_simp
      refine hK.out _ _ (SK.out _ F8.out.2.2.2) (fun hHeld => ?_)
      try simp only [Act.put, List.setIfInBounds_toArray, List.set_cons_zero, List.set_cons_succ]
      refine held_take 16 (.int .i64 0) rfl (by kernel_rfl) (by kernel_rfl) (by kernel_rfl) (fun _ _ _ h => by obtain ⟨_, _, h, _⟩ := h; cases h) (by rfl) (by intro w' hS; go_simp) (by assumption) ?_
      try simp only [Act.put, List.setIfInBounds_toArray, List.set_cons_zero, List.set_cons_succ]
      refine wpAnyH_done (by kernel_rfl) ?_ _
      refine ⟨⟨w2.heap.size, A8, c8, A9, c9, _⟩, F8.out, rfl, ?_, rfl⟩
      simp only [Act.put, List.setIfInBounds_toArray, List.set_cons_zero, List.set_cons_succ]
    · go_simp
      rw [HV1.out]
      refine hK.out _ _ (SK.out _ bV1.out) (fun hHeld => ?_)
      try simp only [Act.put, List.setIfInBounds_toArray, List.set_cons_zero, List.set_cons_succ]
      refine held_call 10 (by kernel_rfl) rfl (by rfl) (fun K hK => ?_)
      go_simp
      refine (GO1.out V1 bV1.out).mono ?_
      rintro e w2 ⟨v', rfl, A8, c8, A9, c9, rfl, o8, o9, -, hb7⟩
      have b7 := bV1.out.trans (hb7.mono bV1.out.size)
      have bV := Lib.hid b7
      have JV := Lib.hid (JV1.out.kept hb7)
      have I8 := Lib.hid (row_ints o8 (by omega) HOF.out)
      have I9 := Lib.hid (row_ints o9 (by omega) HYF.out)
      have hK8 : ∀ p, A8 = some p → p.block ≠ w1.heap.size := fun p hp e => by subst hp; have := (o8.lt p.block rfl).1; have := sV1.out; omega
      have hK9 : ∀ p, A9 = some p → p.block ≠ w1.heap.size := fun p hp e => by subst hp; have := (o9.lt p.block rfl).1; have := sV1.out; omega
      have hKb : w1.heap.size ≤ w1.heap.size := Nat.le_refl _
      clear o8 o9 hb7 b7
      go_wp2_with fail
      refine hK.out _ _ (SK.out _ bV.out) (fun hHeld => ?_)
      try simp only [Act.put, List.setIfInBounds_toArray, List.set_cons_zero, List.set_cons_succ]
      refine held_take 11 (.tuple #[.agg #[.slice A8 x.sl c8, .slice A9 R c9], .int .i64 0]) rfl (by kernel_rfl) (by kernel_rfl) (by kernel_rfl) (fun _ _ _ h => by obtain ⟨_, _, h, _⟩ := h; cases h) (by rfl) (by intro w' hS; go_simp) (by assumption) ?_
      try simp only [Act.put, List.setIfInBounds_toArray, List.set_cons_zero, List.set_cons_succ]
      refine held_take 12 (.agg #[.slice A8 x.sl c8, .slice A9 R c9]) rfl (by kernel_rfl) (by kernel_rfl) (by kernel_rfl) (fun _ _ _ h => by obtain ⟨_, _, h, _⟩ := h; cases h) (by rfl) (by intro w' hS; go_simp) (by assumption) ?_
      try simp only [Act.put, List.setIfInBounds_toArray, List.set_cons_zero, List.set_cons_succ]
      refine held_take 13 (.int .i64 0) rfl (by kernel_rfl) (by kernel_rfl) (by kernel_rfl) (fun _ _ _ h => by obtain ⟨_, _, h, _⟩ := h; cases h) (by rfl) (by intro w' hS; go_simp) (by assumption) ?_
      try simp only [Act.put, List.setIfInBounds_toArray, List.set_cons_zero, List.set_cons_succ]
      obtain ⟨e0, e1, f0, f1⟩ := JV.out.see
      have F8 := Lib.hid (box_put (c8 := c8) (c9 := c9) JV.out hKb bV.out I8.out I9.out hK8 hK9)
      clear hK8 hK9
      refine held_call 15 (by kernel_rfl) rfl (by rfl) (fun K hK => ?_)
      go_simp
      refine hK.out _ _ (SK.out _ F8.out.2.2.2) (fun hHeld => ?_)
      try simp only [Act.put, List.setIfInBounds_toArray, List.set_cons_zero, List.set_cons_succ]
      refine held_take 16 (.int .i64 0) rfl (by kernel_rfl) (by kernel_rfl) (by kernel_rfl) (fun _ _ _ h => by obtain ⟨_, _, h, _⟩ := h; cases h) (by rfl) (by intro w' hS; go_simp) (by assumption) ?_
      try simp only [Act.put, List.setIfInBounds_toArray, List.set_cons_zero, List.set_cons_succ]
      refine wpAnyH_done (by kernel_rfl) ?_ _
      refine ⟨⟨w1.heap.size, A8, c8, A9, c9, _⟩, F8.out, rfl, ?_, rfl⟩
      simp only [Act.put, List.setIfInBounds_toArray, List.set_cons_zero, List.set_cons_succ]
  rintro ⟨q1, A8, c8, A9, c9, W8⟩ hq
  obtain ⟨i8, i9, gq, bq⟩ := hq
  have I8 := Lib.hid i8
  have I9 := Lib.hid i9
  have GQ := Lib.hid gq
  have BQ := Lib.hid bq
  clear i8 i9 gq bq GO1 t1 HV1 JV1 bV1 sV1
  simp only [Act.put, List.setIfInBounds_toArray, List.set_cons_zero, List.set_cons_succ] at BQ I8 I9 GQ ⊢
  have b3 := Lib.hid (b1.out.trans (BQ.out.mono b1.out.size))
  obtain ⟨j0, j1, -⟩ := SK.out W8 BQ.out
  go_wp2_with fail
  refine (GO2.out W8 b3.out).mono ?_
  rintro e w4 ⟨v', rfl, Z8, z8, Z9, z9, rfl, o8, o9, -, hb4⟩
  obtain ⟨wE, hwE, JZ, zE, nE⟩ := grid_box w4 (.slice Z8 x.sl z8) (.slice Z9 cl z9)
  have k4 := hb4.trans (zE.out.mono hb4.size)
  have K4 := Lib.hid (BQ.out.trans (k4.mono BQ.out.size))
  have b4 := Lib.hid (b3.out.trans (k4.mono b3.out.size))
  have GQ4 := Lib.hid (GQ.out.kept k4)
  have Z8I := Lib.hid ((row_ints o8 (by omega) HXS.out).kept zE.out)
  have Z9I := Lib.hid ((row_ints o9 (by omega) HXF.out).kept zE.out)
  have SK5 := Lib.hid (fun w' (hb : Below wE.heap.size wE w') => (show w'.cell? ⟨q1, 1, none⟩ = some (.slice A9 R c9) ∧ w'.cell? ⟨w.heap.size, 0, none⟩ = some (.slice (some ⟨sb, so, none⟩) x.sl x.sc) ∧ w'.cell? ⟨w.heap.size, 1, none⟩ = some (.slice x.ca cl x.cc) ∧ w'.cell? ⟨sb, so + k, none⟩ = some (.int .i64 side) ∧ w'.cell? ⟨w4.heap.size, 0, none⟩ = some (.slice Z8 x.sl z8) ∧ w'.cell? ⟨w4.heap.size, 1, none⟩ = some (.slice Z9 cl z9) from ⟨(GQ4.out.kept hb).see.2.1, (SK.out w' (K4.out.trans (hb.mono K4.out.size))).1, (SK.out w' (K4.out.trans (hb.mono K4.out.size))).2.1, (SK.out w' (K4.out.trans (hb.mono K4.out.size))).2.2, (JZ.out.kept hb).see.1, (JZ.out.kept hb).see.2.1⟩))
  have t5 := Lib.hid (show Below wE.heap.size wE wE.drew from (Below.refl _ _).drew)
  have EQ : Hid (∀ w1, Below wE.heap.size wE w1 → Calls Try.prog 23 #[.agg #[.slice Z8 x.sl z8, .slice Z9 cl z9], .agg #[.slice (some ⟨sb, so, none⟩) x.sl x.sc, .slice x.ca cl x.cc]] w1 fun e w' => e = .returned (.bool true) ∧ Below w1.heap.size w1 w') := Lib.hid (fun w1 hb => by
    have h0 := ATE.out w1 (b4.out.trans (hb.mono b4.out.size)) Z8 Z9 z8 z9 (Z8I.out.kept hb) (Z9I.out.kept hb)
    have e0 : sameT x.ss x.cs x.ss x.cs = true := by unfold sameT; rw [sameL_self, sameL_self]; rfl
    rw [e0] at h0
    exact h0)
  have hm2 : IntKind.i64.wrap ((R : Int) * (side : Int)) = (cl : Int) := hmul
  clear hb4 o8 o9 k4 GO2 ATE SK j0 j1
  go_upto_region 5 with (fail)
  rw [hwE.out]
  refine wp_region_held_drew (S := fun w' => w'.cell? ⟨q1, 1, none⟩ = some (.slice A9 R c9) ∧ w'.cell? ⟨w.heap.size, 0, none⟩ = some (.slice (some ⟨sb, so, none⟩) x.sl x.sc) ∧ w'.cell? ⟨w.heap.size, 1, none⟩ = some (.slice x.ca cl x.cc) ∧ w'.cell? ⟨sb, so + k, none⟩ = some (.int .i64 side) ∧ w'.cell? ⟨w4.heap.size, 0, none⟩ = some (.slice Z8 x.sl z8) ∧ w'.cell? ⟨w4.heap.size, 1, none⟩ = some (.slice Z9 cl z9)) (by kernel_rfl) (SK5.out _ t5.out) (fun hHeld => ?_)
  refine held_take 0 (.int .i64 0) rfl (by kernel_rfl) (by kernel_rfl) (by kernel_rfl) (fun _ _ _ h => h) (by rfl) (by intro w' hS; go_simp) (by assumption) ?_
  try simp only [Act.put, List.setIfInBounds_toArray, List.set_cons_zero, List.set_cons_succ]
  refine held_take 1 (.bool true) rfl (by kernel_rfl) (by kernel_rfl) (by kernel_rfl) (fun _ _ _ h => h) (by rfl) (by intro w' hS; go_simp) (by assumption) ?_
  try simp only [Act.put, List.setIfInBounds_toArray, List.set_cons_zero, List.set_cons_succ]
  refine held_take 2 (.bool true) rfl (by kernel_rfl) (by kernel_rfl) (by kernel_rfl) (fun _ _ _ h => h) (by rfl) (by intro w' hS; go_simp) (by assumption) ?_
  try simp only [Act.put, List.setIfInBounds_toArray, List.set_cons_zero, List.set_cons_succ]
  refine held_take 3 (.int .i64 0) rfl (by kernel_rfl) (by kernel_rfl) (by kernel_rfl) (fun _ _ _ h => h) (by rfl) (by intro w' hS; go_simp) (by assumption) ?_
  try simp only [Act.put, List.setIfInBounds_toArray, List.set_cons_zero, List.set_cons_succ]
  refine held_take 4 (.bool true) rfl (by kernel_rfl) (by kernel_rfl) (by kernel_rfl) (fun _ _ _ h => h) (by rfl) (by intro w' hS; go_simp) (by assumption) ?_
  try simp only [Act.put, List.setIfInBounds_toArray, List.set_cons_zero, List.set_cons_succ]
  refine held_take 5 (.bool true) rfl (by kernel_rfl) (by kernel_rfl) (by kernel_rfl) (fun _ _ _ h => h) (by rfl) (by intro w' hS; go_simp) (by assumption) ?_
  try simp only [Act.put, List.setIfInBounds_toArray, List.set_cons_zero, List.set_cons_succ]
  refine held_take 6 (.bool true) rfl (by kernel_rfl) (by kernel_rfl) (by kernel_rfl) (fun _ _ _ h => h) (by rfl) (by intro w' hS; go_simp) (by assumption) ?_
  try simp only [Act.put, List.setIfInBounds_toArray, List.set_cons_zero, List.set_cons_succ]
  refine held_take 7 (.pointer (some ⟨q1, 1, none⟩)) rfl (by kernel_rfl) (by kernel_rfl) (by kernel_rfl) (fun _ _ _ h => h) (by rfl) (by intro w' hS; go_simp) (by assumption) ?_
  try simp only [Act.put, List.setIfInBounds_toArray, List.set_cons_zero, List.set_cons_succ]
  refine held_take 8 (.slice A9 R c9) rfl (by kernel_rfl) (by kernel_rfl) (by kernel_rfl) (fun _ _ _ h => h) (by rfl) (by intro w' hS; go_simp) (by assumption) ?_
  try simp only [Act.put, List.setIfInBounds_toArray, List.set_cons_zero, List.set_cons_succ]
  refine held_take 9 (.int .i64 R) rfl (by kernel_rfl) (by kernel_rfl) (by kernel_rfl) (fun _ _ _ h => h) (by rfl) (by intro w' hS; go_simp) (by assumption) ?_
  try simp only [Act.put, List.setIfInBounds_toArray, List.set_cons_zero, List.set_cons_succ]
  refine held_take 10 (.pointer (some ⟨w.heap.size, 0, none⟩)) rfl (by kernel_rfl) (by kernel_rfl) (by kernel_rfl) (fun _ _ _ h => h) (by rfl) (by intro w' hS; go_simp) (by assumption) ?_
  try simp only [Act.put, List.setIfInBounds_toArray, List.set_cons_zero, List.set_cons_succ]
  refine held_take 11 (.slice (some ⟨sb, so, none⟩) x.sl x.sc) rfl (by kernel_rfl) (by kernel_rfl) (by kernel_rfl) (fun _ _ _ h => h) (by rfl) (by intro w' hS; go_simp) (by assumption) ?_
  try simp only [Act.put, List.setIfInBounds_toArray, List.set_cons_zero, List.set_cons_succ]
  refine held_take 12 (.pointer (some ⟨w.heap.size, 0, none⟩)) rfl (by kernel_rfl) (by kernel_rfl) (by kernel_rfl) (fun _ _ _ h => h) (by rfl) (by intro w' hS; go_simp) (by assumption) ?_
  try simp only [Act.put, List.setIfInBounds_toArray, List.set_cons_zero, List.set_cons_succ]
  refine held_take 13 (.slice (some ⟨sb, so, none⟩) x.sl x.sc) rfl (by kernel_rfl) (by kernel_rfl) (by kernel_rfl) (fun _ _ _ h => h) (by rfl) (by intro w' hS; go_simp) (by assumption) ?_
  try simp only [Act.put, List.setIfInBounds_toArray, List.set_cons_zero, List.set_cons_succ]
  refine held_take 14 (.int .i64 x.sl) rfl (by kernel_rfl) (by kernel_rfl) (by kernel_rfl) (fun _ _ _ h => h) (by rfl) (by intro w' hS; go_simp) (by assumption) ?_
  try simp only [Act.put, List.setIfInBounds_toArray, List.set_cons_zero, List.set_cons_succ]
  refine held_take 15 (.int .i64 k) rfl (by kernel_rfl) (by kernel_rfl) (by kernel_rfl) (fun _ _ _ h => h) (by rfl) (by intro w' hS; go_simp) (by assumption) ?_
  try simp only [Act.put, List.setIfInBounds_toArray, List.set_cons_zero, List.set_cons_succ]
  refine held_take 16 (.pointer (some ⟨sb, so + k, none⟩)) rfl (by kernel_rfl) (by kernel_rfl) (by kernel_rfl) (fun _ _ _ h => h) (by rfl) (by intro w' hS; go_simp) (by assumption) ?_
  try simp only [Act.put, List.setIfInBounds_toArray, List.set_cons_zero, List.set_cons_succ]
  refine held_take 17 (.int .i64 side) rfl (by kernel_rfl) (by kernel_rfl) (by kernel_rfl) (fun _ _ _ h => h) (by rfl) (by intro w' hS; go_simp) (by assumption) ?_
  try simp only [Act.put, List.setIfInBounds_toArray, List.set_cons_zero, List.set_cons_succ]
  refine held_take 18 (.int .i64 cl) rfl (by kernel_rfl) (by kernel_rfl) (by kernel_rfl) (fun _ _ _ h => h) (by rfl) (by intro w' hS; go_simp) (by assumption) ?_
  try simp only [Act.put, List.setIfInBounds_toArray, List.set_cons_zero, List.set_cons_succ]
  refine held_take 19 (.pointer (some ⟨w.heap.size, 1, none⟩)) rfl (by kernel_rfl) (by kernel_rfl) (by kernel_rfl) (fun _ _ _ h => h) (by rfl) (by intro w' hS; go_simp) (by assumption) ?_
  try simp only [Act.put, List.setIfInBounds_toArray, List.set_cons_zero, List.set_cons_succ]
  refine held_take 20 (.slice x.ca cl x.cc) rfl (by kernel_rfl) (by kernel_rfl) (by kernel_rfl) (fun _ _ _ h => h) (by rfl) (by intro w' hS; go_simp) (by assumption) ?_
  try simp only [Act.put, List.setIfInBounds_toArray, List.set_cons_zero, List.set_cons_succ]
  refine held_take 21 (.int .i64 cl) rfl (by kernel_rfl) (by kernel_rfl) (by kernel_rfl) (fun _ _ _ h => h) (by rfl) (by intro w' hS; go_simp) (by assumption) ?_
  try simp only [Act.put, List.setIfInBounds_toArray, List.set_cons_zero, List.set_cons_succ]
  refine held_take 22 (.bool true) rfl (by kernel_rfl) (by kernel_rfl) (by kernel_rfl) (fun _ _ _ h => h) (by rfl) (by intro w' hS; go_simp) (by assumption) ?_
  try simp only [Act.put, List.setIfInBounds_toArray, List.set_cons_zero, List.set_cons_succ]
  refine held_take 23 (.bool true) rfl (by kernel_rfl) (by kernel_rfl) (by kernel_rfl) (fun _ _ _ h => h) (by rfl) (by intro w' hS; go_simp) (by assumption) ?_
  try simp only [Act.put, List.setIfInBounds_toArray, List.set_cons_zero, List.set_cons_succ]
  refine held_take 24 (.bool true) rfl (by kernel_rfl) (by kernel_rfl) (by kernel_rfl) (fun _ _ _ h => h) (by rfl) (by intro w' hS; go_simp) (by assumption) ?_
  try simp only [Act.put, List.setIfInBounds_toArray, List.set_cons_zero, List.set_cons_succ]
  refine held_take 25 (.agg #[.slice Z8 x.sl z8, .slice Z9 cl z9]) rfl (by kernel_rfl) (by kernel_rfl) (by kernel_rfl) (fun _ _ _ h => h) (by rfl) (by intro w' hS; go_simp) (by assumption) ?_
  try simp only [Act.put, List.setIfInBounds_toArray, List.set_cons_zero, List.set_cons_succ]
  refine held_take 26 (.agg #[.slice (some ⟨sb, so, none⟩) x.sl x.sc, .slice x.ca cl x.cc]) rfl (by kernel_rfl) (by kernel_rfl) (by kernel_rfl) (fun _ _ _ h => h) (by rfl) (by intro w' hS; go_simp) (by assumption) ?_
  try simp only [Act.put, List.setIfInBounds_toArray, List.set_cons_zero, List.set_cons_succ]
  refine held_call 27 (by kernel_rfl) rfl (by rfl) (fun K hK => ?_)
  go_simp
  refine (EQ.out wE.drew t5.out).mono ?_
  rintro e w5 ⟨rfl, hb5⟩
  have b5 := Lib.hid (t5.out.trans (hb5.mono t5.out.size))
  clear hb5
  go_wp2_with fail
  refine hK.out _ _ (SK5.out _ b5.out) (fun hHeld => ?_)
  try simp only [Act.put, List.setIfInBounds_toArray, List.set_cons_zero, List.set_cons_succ]
  refine held_take 28 (.bool true) rfl (by kernel_rfl) (by kernel_rfl) (by kernel_rfl) (fun _ _ _ h => h) (by rfl) (by intro w' hS; go_simp) (by assumption) ?_
  try simp only [Act.put, List.setIfInBounds_toArray, List.set_cons_zero, List.set_cons_succ]
  refine held_take 29 (.bool true) rfl (by kernel_rfl) (by kernel_rfl) (by kernel_rfl) (fun _ _ _ h => h) (by rfl) (by intro w' hS; go_simp) (by assumption) ?_
  try simp only [Act.put, List.setIfInBounds_toArray, List.set_cons_zero, List.set_cons_succ]
  refine held_call 30 (by kernel_rfl) rfl (by rfl) (fun K hK => ?_)
  go_simp
  refine (awake08_any _).mono ?_
  rintro e w6 ⟨rfl, hb6⟩
  have b6 := Lib.hid (b5.out.trans (hb6.mono b5.out.size))
  clear hb6
  go_wp2_with fail
  refine hK.out _ _ (SK5.out _ b6.out) (fun hHeld => ?_)
  try simp only [Act.put, List.setIfInBounds_toArray, List.set_cons_zero, List.set_cons_succ]
  refine held_take 31 (.bool true) rfl (by kernel_rfl) (by kernel_rfl) (by kernel_rfl) (fun _ _ _ h => h) (by rfl) (by intro w' hS; go_simp) (by assumption) ?_
  try simp only [Act.put, List.setIfInBounds_toArray, List.set_cons_zero, List.set_cons_succ]
  refine held_take 32 (.bool true) rfl (by kernel_rfl) (by kernel_rfl) (by kernel_rfl) (fun _ _ _ h => h) (by rfl) (by intro w' hS; go_simp) (by assumption) ?_
  try simp only [Act.put, List.setIfInBounds_toArray, List.set_cons_zero, List.set_cons_succ]
  refine wpAnyH_done (by kernel_rfl) ?_ _
  go_wp2_with fail
  go_ret
  exact ⟨rfl, b4.out.trans (b6.out.mono b4.out.size)⟩

set_option maxRecDepth 100000 in
set_option maxHeartbeats 16000000 in
theorem poolWhole_2 (x : TV) (w : World) (hx : x.At w ∧ x.Cap) (c1 : x.sl ≤ 9) (c2 : x.cl ≤ 600) (c3 : rightT x.ss x.cl = true) :
    Calls Try.prog 7 #[.int .i64 2, .agg #[.slice x.sa x.sl x.sc, .slice x.ca x.cl x.cc]] w fun e w' => e = .returned (.bool true) ∧ Below w.heap.size w w' := by
  obtain ⟨hr1, hr2⟩ := rightT_parts c3
  obtain ⟨p1, p2, -, -⟩ := rightS_parts hr1
  obtain ⟨side, R, hlastE, e1, e2, hp1, hp2, hss⟩ := pool_whole hr1
  have hcl : x.cl = R * side := by have := hp1.cells; omega
  have hsl : x.ss.length = x.sl := hx.1.1.1
  have h2 : (2 : Int) = 1 ∨ (2 : Int) = 2 := by decide
  have E1 : kindE 2 x.ss x.cl side 1 = 0 := by rw [kindE_right h2 c3]; exact e1
  have E2 : kindE 2 x.ss x.cl 1 1 = 0 := by rw [kindE_right h2 c3]; exact e2
  have hgo := goL_one hp2 2 hx.1.2.1.2.2.1 (hx.1.2.1.1.trans hcl)
  have GO1 := fun w1 (hb : Below w.heap.size w w1) => pgo_ok 2 x side 1 side side 1 1 R w1 (hx.1.kept hb) hx.2 E1 hp1
  have GO2 := fun w1 (hb : Below w.heap.size w w1) => pgo_ok 2 x 1 1 side 1 1 side R w1 (hx.1.kept hb) hx.2 E2 hp2
  rw [hgo, hss, ← hcl, hsl] at GO2
  have HOF := Lib.hid (psS_fits e1)
  have HYF : Hid (Fits (goL 2 x.cs side (winsL side 1 1 R))) := Lib.hid (by
    intro t ht
    unfold goL at ht
    obtain ⟨p, -, rfl⟩ := List.mem_map.1 ht
    unfold poolA
    split
    · exact maxN_fits hx.1.2.1.2.2.1 _ _
    · exact divF_bounds _ _)
  have HXS := Lib.hid hx.1.1.2.2.1
  have HXF := Lib.hid hx.1.2.1.2.2.1
  have HAT := Lib.hid (fun w1 (hb : Below w.heap.size w w1) => hx.1.kept hb)
  have RG := Lib.hid (fun w1 (hb : Below w.heap.size w w1) => c3 ▸ rright8_any x.sa x.sl x.sc x.ss x.ca x.cl x.cc w1 ((hx.1.1.kept hb)) (by have := hx.1.2.2.2; omega))
  obtain ⟨k, hk⟩ : ∃ k, x.sl = k + 1 := ⟨x.sl - 1, by omega⟩
  obtain ⟨sb, so, hsa, hscell⟩ := ints_cell hx.1.1 (by omega)
  have hlast : x.ss.getD k 0 = side := by rw [← hlastE]; unfold lastI; rw [hsl, hk]; rfl
  have hsc := hscell k (by omega)
  rw [hlast] at hsc
  have HSC := Lib.hid (fun w1 (hb : Below w.heap.size w w1) => cell_later hb hsc)
  have ek : (x.sl : Int) - 1 = (k : Int) := by omega
  have ek0 : (0 : Int) ≤ (k : Int) := by omega
  have ek2 : (k : Int) < (x.sl : Int) := by omega
  have ek3 : IntKind.i64.wrap (k : Int) = (k : Int) := IntWalk.i64_in _ (by omega)
  have d1 : ¬ (9 : Int) < (x.sl : Int) := by omega
  have d2 : ¬ (600 : Int) < (x.cl : Int) := by omega
  have hR6 : R ≤ 65536 := Nat.le_trans (Nat.le_mul_of_pos_right R (by have := hp1.ws; have := hp1.w1; omega)) hp1.most
  have hmul : IntKind.i64.wrap ((R : Int) * (side : Int)) = (x.cl : Int) := wmul hcl.symm (by omega)
  obtain ⟨cl, hclE⟩ : ∃ cl, x.cl = cl := ⟨_, rfl⟩
  rw [hclE] at d2 GO2 hmul c2
  simp only [hclE] at RG
  obtain ⟨os, hos⟩ : ∃ os, psS x.ss (side : Int) 1 = os := ⟨_, rfl⟩
  obtain ⟨ys, hys⟩ : ∃ ys, goL 2 x.cs side (winsL side 1 1 R) = ys := ⟨_, rfl⟩
  rw [hos] at HOF
  rw [hys] at HYF
  rw [hos, hys, hsl, Nat.mul_one, hclE] at GO1
  rw [hclE]
  rw [hsa] at GO1 GO2 ⊢
  simp only [hsa] at RG
  have ATE := Lib.hid (fun w1 (hb : Below w.heap.size w w1) (Z8 Z9 : Option Addr) (z8 z9 : Nat) (i8 : IntsAt w1 Z8 x.sl x.ss) (i9 : IntsAt w1 Z9 cl x.cs) => tequal_any Z8 x.sl z8 x.ss Z9 cl z9 x.cs (some ⟨sb, so, none⟩) x.sl x.sc x.ss x.ca cl x.cc x.cs w1 i8 i9 (by have := (HAT.out w1 hb).1; rw [hsa] at this; exact this) (by have := (HAT.out w1 hb).2.1; rw [hclE] at this; exact this))
  replace GO1 := Lib.hid GO1
  replace GO2 := Lib.hid GO2
  clear hr1 hr2 p1 p2 hlastE e1 e2 hp1 hp2 hss hcl hsl E1 E2 hgo hx c3 hk hsa hscell hlast hsc hos hys hclE HAT h2
  obtain ⟨wA, hwA, J1, z1, n1⟩ := grid_box w (.slice (some ⟨sb, so, none⟩) x.sl x.sc) (.slice x.ca cl x.cc)
  obtain ⟨j0, j1, -, -⟩ := J1.out.see
  go_enter Try.func7, Try.ntmps7
  go_upto_region 1 with (fail)
  rw [hwA.out]
  go_wp2_with fail
  refine (RG.out wA z1.out).mono ?_
  rintro e w1 ⟨rfl, hb1⟩
  have b1 := Lib.hid (z1.out.trans (hb1.mono z1.out.size))
  have K1 := Lib.hid (J1.out.kept hb1)
  replace GO1 := Lib.hid (fun w2 (hb : Below w1.heap.size w1 w2) => GO1.out w2 (b1.out.trans (hb.mono b1.out.size)))
  have SK := Lib.hid (fun w' (hb : Below w1.heap.size w1 w') => (show w'.cell? ⟨w.heap.size, 0, none⟩ = some (.slice (some ⟨sb, so, none⟩) x.sl x.sc) ∧ w'.cell? ⟨w.heap.size, 1, none⟩ = some (.slice x.ca cl x.cc) ∧ w'.cell? ⟨sb, so + k, none⟩ = some (.int .i64 side) from ⟨(K1.out.kept hb).see.1, (K1.out.kept hb).see.2.1, HSC.out w' (b1.out.trans (hb.mono b1.out.size))⟩))
  have t1 := Lib.hid (show Below w1.heap.size w1 w1.drew from (Below.refl _ _).drew)
  obtain ⟨V1, hV1⟩ : ∃ V1, (w1.alloc (.cells #[.slice none 0 0, .slice none 0 0] 34)).drew = V1 := ⟨_, rfl⟩
  have HV1 := Lib.hid hV1
  have JV1 := Lib.hid (show GAt V1 w1.heap.size (.slice none 0 0) (.slice none 0 0) by rw [← hV1]; exact World.alloc_heap_new w1 _)
  have bV1 := Lib.hid (show Below w1.heap.size w1 V1 by rw [← hV1]; exact ((Below.refl _ _).alloc (Nat.le_refl _) _).drew)
  have sV1 := Lib.hid (show w1.heap.size < V1.heap.size by rw [← hV1]; show w1.heap.size < (w1.alloc _).heap.size; simp)
  clear hb1 RG j0 j1 hV1
  go_upto_region 3 with (fail)
  refine wp_cutP (ι := BoxQ) (BoxP w1 x.sl os R ys) (fun q a => ((((((((((((((((a.put (some 34) (.int .i64 2)).put (some 35) (.agg #[.slice (some ⟨sb, so, none⟩) x.sl x.sc, .slice x.ca cl x.cc])).put (some 36) (.pointer (some ⟨w.heap.size, 0, none⟩))).put (some 37) (.slice (some ⟨sb, so, none⟩) x.sl x.sc)).put (some 38) (.pointer (some ⟨w.heap.size, 0, none⟩))).put (some 39) (.slice (some ⟨sb, so, none⟩) x.sl x.sc)).put (some 40) (.int .i64 x.sl)).put (some 41) (.int .i64 k)).put (some 42) (.pointer (some ⟨sb, so + k, none⟩))).put (some 43) (.int .i64 side)).put (some 44) (.tuple #[.agg #[.slice q.A8 x.sl q.c8, .slice q.A9 R q.c9], .int .i64 0])).put (some 33) (.tuple #[.agg #[.slice q.A8 x.sl q.c8, .slice q.A9 R q.c9], .int .i64 0])).put (some 45) (.agg #[.slice q.A8 x.sl q.c8, .slice q.A9 R q.c9])).put (some 46) (.int .i64 0)).put (some 5) (.pointer (some ⟨q.B, 0, none⟩))).put (some 6) (.int .i64 0))) (fun q => q.W) ?_ ?_
  · refine wp_region_held_drew (S := fun w' => w'.cell? ⟨w.heap.size, 0, none⟩ = some (.slice (some ⟨sb, so, none⟩) x.sl x.sc) ∧ w'.cell? ⟨w.heap.size, 1, none⟩ = some (.slice x.ca cl x.cc) ∧ w'.cell? ⟨sb, so + k, none⟩ = some (.int .i64 side)) (by kernel_rfl) (SK.out _ t1.out) (fun hHeld => ?_)
    refine held_take 0 (.int .i64 2) rfl (by kernel_rfl) (by kernel_rfl) (by kernel_rfl) (fun _ _ _ h => by obtain ⟨_, _, h, _⟩ := h; cases h) (by rfl) (by intro w' hS; go_simp) (by assumption) ?_
    try simp only [Act.put, List.setIfInBounds_toArray, List.set_cons_zero, List.set_cons_succ]
    refine held_take 1 (.agg #[.slice (some ⟨sb, so, none⟩) x.sl x.sc, .slice x.ca cl x.cc]) rfl (by kernel_rfl) (by kernel_rfl) (by kernel_rfl) (fun _ _ _ h => by obtain ⟨_, _, h, _⟩ := h; cases h) (by rfl) (by intro w' hS; go_simp) (by assumption) ?_
    try simp only [Act.put, List.setIfInBounds_toArray, List.set_cons_zero, List.set_cons_succ]
    refine held_take 2 (.pointer (some ⟨w.heap.size, 0, none⟩)) rfl (by kernel_rfl) (by kernel_rfl) (by kernel_rfl) (fun _ _ _ h => by obtain ⟨_, _, h, _⟩ := h; cases h) (by rfl) (by intro w' hS; go_simp) (by assumption) ?_
    try simp only [Act.put, List.setIfInBounds_toArray, List.set_cons_zero, List.set_cons_succ]
    refine held_take 3 (.slice (some ⟨sb, so, none⟩) x.sl x.sc) rfl (by kernel_rfl) (by kernel_rfl) (by kernel_rfl) (fun _ _ _ h => by obtain ⟨_, _, h, _⟩ := h; cases h) (by rfl) (by intro w' hS; go_simp) (by assumption) ?_
    try simp only [Act.put, List.setIfInBounds_toArray, List.set_cons_zero, List.set_cons_succ]
    refine held_take 4 (.pointer (some ⟨w.heap.size, 0, none⟩)) rfl (by kernel_rfl) (by kernel_rfl) (by kernel_rfl) (fun _ _ _ h => by obtain ⟨_, _, h, _⟩ := h; cases h) (by rfl) (by intro w' hS; go_simp) (by assumption) ?_
    try simp only [Act.put, List.setIfInBounds_toArray, List.set_cons_zero, List.set_cons_succ]
    refine held_take 5 (.slice (some ⟨sb, so, none⟩) x.sl x.sc) rfl (by kernel_rfl) (by kernel_rfl) (by kernel_rfl) (fun _ _ _ h => by obtain ⟨_, _, h, _⟩ := h; cases h) (by rfl) (by intro w' hS; go_simp) (by assumption) ?_
    try simp only [Act.put, List.setIfInBounds_toArray, List.set_cons_zero, List.set_cons_succ]
    refine held_take 6 (.int .i64 x.sl) rfl (by kernel_rfl) (by kernel_rfl) (by kernel_rfl) (fun _ _ _ h => by obtain ⟨_, _, h, _⟩ := h; cases h) (by rfl) (by intro w' hS; go_simp) (by assumption) ?_
    try simp only [Act.put, List.setIfInBounds_toArray, List.set_cons_zero, List.set_cons_succ]
    refine held_take 7 (.int .i64 k) rfl (by kernel_rfl) (by kernel_rfl) (by kernel_rfl) (fun _ _ _ h => by obtain ⟨_, _, h, _⟩ := h; cases h) (by rfl) (by intro w' hS; go_simp) (by assumption) ?_
    try simp only [Act.put, List.setIfInBounds_toArray, List.set_cons_zero, List.set_cons_succ]
    refine held_take 8 (.pointer (some ⟨sb, so + k, none⟩)) rfl (by kernel_rfl) (by kernel_rfl) (by kernel_rfl) (fun _ _ _ h => by obtain ⟨_, _, h, _⟩ := h; cases h) (by rfl) (by intro w' hS; go_simp) (by assumption) ?_
    try simp only [Act.put, List.setIfInBounds_toArray, List.set_cons_zero, List.set_cons_succ]
    refine held_take 9 (.int .i64 side) rfl (by kernel_rfl) (by kernel_rfl) (by kernel_rfl) (fun _ _ _ h => by obtain ⟨_, _, h, _⟩ := h; cases h) (by rfl) (by intro w' hS; go_simp) (by assumption) ?_
    try simp only [Act.put, List.setIfInBounds_toArray, List.set_cons_zero, List.set_cons_succ]
    refine held_two 10 14 (by kernel_rfl) rfl rfl (by rfl) (by rfl) (fun K hK => ?_) (fun K hK => ?_)
    · go_simp
      refine (GO1.out w1.drew t1.out).mono ?_
      rintro e w2 ⟨v', rfl, A8, c8, A9, c9, rfl, o8, o9, -, hb7⟩
      have b7 := t1.out.trans (hb7.mono t1.out.size)
      obtain ⟨V, hV, JV, zV, nV⟩ := grid_box w2 (.slice none 0 0) (.slice none 0 0)
      have b7h := Lib.hid b7
      have bV := Lib.hid (b7.trans (zV.out.mono b7.size))
      have I8 := Lib.hid ((row_ints o8 (by omega) HOF.out).kept zV.out)
      have I9 := Lib.hid ((row_ints o9 (by omega) HYF.out).kept zV.out)
      have hK8 : ∀ p, A8 = some p → p.block ≠ w2.heap.size := fun p hp e => by subst hp; have := (o8.lt p.block rfl).2; omega
      have hK9 : ∀ p, A9 = some p → p.block ≠ w2.heap.size := fun p hp e => by subst hp; have := (o9.lt p.block rfl).2; omega
      have hKb : w1.heap.size ≤ w2.heap.size := b7.size
      clear o8 o9 hb7 b7
      go_wp2_with fail
      refine hK.out _ _ (SK.out _ b7h.out) (fun hHeld => ?_)
      try simp only [Act.put, List.setIfInBounds_toArray, List.set_cons_zero, List.set_cons_succ]
      refine held_take 11 (.tuple #[.agg #[.slice A8 x.sl c8, .slice A9 R c9], .int .i64 0]) rfl (by kernel_rfl) (by kernel_rfl) (by kernel_rfl) (fun _ _ _ h => by obtain ⟨_, _, h, _⟩ := h; cases h) (by rfl) (by intro w' hS; go_simp) (by assumption) ?_
      try simp only [Act.put, List.setIfInBounds_toArray, List.set_cons_zero, List.set_cons_succ]
      refine held_take 12 (.agg #[.slice A8 x.sl c8, .slice A9 R c9]) rfl (by kernel_rfl) (by kernel_rfl) (by kernel_rfl) (fun _ _ _ h => by obtain ⟨_, _, h, _⟩ := h; cases h) (by rfl) (by intro w' hS; go_simp) (by assumption) ?_
      try simp only [Act.put, List.setIfInBounds_toArray, List.set_cons_zero, List.set_cons_succ]
      refine held_take 13 (.int .i64 0) rfl (by kernel_rfl) (by kernel_rfl) (by kernel_rfl) (fun _ _ _ h => by obtain ⟨_, _, h, _⟩ := h; cases h) (by rfl) (by intro w' hS; go_simp) (by assumption) ?_
      try simp only [Act.put, List.setIfInBounds_toArray, List.set_cons_zero, List.set_cons_succ]
      refine held_call 14 (by kernel_rfl) rfl (by rfl) (fun K hK => ?_)
      go_simp
      rw [hV.out]
      refine hK.out _ _ (SK.out _ bV.out) (fun hHeld => ?_)
      try simp only [Act.put, List.setIfInBounds_toArray, List.set_cons_zero, List.set_cons_succ]
      obtain ⟨e0, e1, f0, f1⟩ := JV.out.see
      have F8 := Lib.hid (box_put (c8 := c8) (c9 := c9) JV.out hKb bV.out I8.out I9.out hK8 hK9)
      clear hK8 hK9
      refine held_call 15 (by kernel_rfl) rfl (by rfl) (fun K hK => ?_)
      go_simp
      refine hK.out _ _ (SK.out _ F8.out.2.2.2) (fun hHeld => ?_)
      try simp only [Act.put, List.setIfInBounds_toArray, List.set_cons_zero, List.set_cons_succ]
      refine held_take 16 (.int .i64 0) rfl (by kernel_rfl) (by kernel_rfl) (by kernel_rfl) (fun _ _ _ h => by obtain ⟨_, _, h, _⟩ := h; cases h) (by rfl) (by intro w' hS; go_simp) (by assumption) ?_
      try simp only [Act.put, List.setIfInBounds_toArray, List.set_cons_zero, List.set_cons_succ]
      refine wpAnyH_done (by kernel_rfl) ?_ _
      refine ⟨⟨w2.heap.size, A8, c8, A9, c9, _⟩, F8.out, rfl, ?_, rfl⟩
      simp only [Act.put, List.setIfInBounds_toArray, List.set_cons_zero, List.set_cons_succ]
    · go_simp
      rw [HV1.out]
      refine hK.out _ _ (SK.out _ bV1.out) (fun hHeld => ?_)
      try simp only [Act.put, List.setIfInBounds_toArray, List.set_cons_zero, List.set_cons_succ]
      refine held_call 10 (by kernel_rfl) rfl (by rfl) (fun K hK => ?_)
      go_simp
      refine (GO1.out V1 bV1.out).mono ?_
      rintro e w2 ⟨v', rfl, A8, c8, A9, c9, rfl, o8, o9, -, hb7⟩
      have b7 := bV1.out.trans (hb7.mono bV1.out.size)
      have bV := Lib.hid b7
      have JV := Lib.hid (JV1.out.kept hb7)
      have I8 := Lib.hid (row_ints o8 (by omega) HOF.out)
      have I9 := Lib.hid (row_ints o9 (by omega) HYF.out)
      have hK8 : ∀ p, A8 = some p → p.block ≠ w1.heap.size := fun p hp e => by subst hp; have := (o8.lt p.block rfl).1; have := sV1.out; omega
      have hK9 : ∀ p, A9 = some p → p.block ≠ w1.heap.size := fun p hp e => by subst hp; have := (o9.lt p.block rfl).1; have := sV1.out; omega
      have hKb : w1.heap.size ≤ w1.heap.size := Nat.le_refl _
      clear o8 o9 hb7 b7
      go_wp2_with fail
      refine hK.out _ _ (SK.out _ bV.out) (fun hHeld => ?_)
      try simp only [Act.put, List.setIfInBounds_toArray, List.set_cons_zero, List.set_cons_succ]
      refine held_take 11 (.tuple #[.agg #[.slice A8 x.sl c8, .slice A9 R c9], .int .i64 0]) rfl (by kernel_rfl) (by kernel_rfl) (by kernel_rfl) (fun _ _ _ h => by obtain ⟨_, _, h, _⟩ := h; cases h) (by rfl) (by intro w' hS; go_simp) (by assumption) ?_
      try simp only [Act.put, List.setIfInBounds_toArray, List.set_cons_zero, List.set_cons_succ]
      refine held_take 12 (.agg #[.slice A8 x.sl c8, .slice A9 R c9]) rfl (by kernel_rfl) (by kernel_rfl) (by kernel_rfl) (fun _ _ _ h => by obtain ⟨_, _, h, _⟩ := h; cases h) (by rfl) (by intro w' hS; go_simp) (by assumption) ?_
      try simp only [Act.put, List.setIfInBounds_toArray, List.set_cons_zero, List.set_cons_succ]
      refine held_take 13 (.int .i64 0) rfl (by kernel_rfl) (by kernel_rfl) (by kernel_rfl) (fun _ _ _ h => by obtain ⟨_, _, h, _⟩ := h; cases h) (by rfl) (by intro w' hS; go_simp) (by assumption) ?_
      try simp only [Act.put, List.setIfInBounds_toArray, List.set_cons_zero, List.set_cons_succ]
      obtain ⟨e0, e1, f0, f1⟩ := JV.out.see
      have F8 := Lib.hid (box_put (c8 := c8) (c9 := c9) JV.out hKb bV.out I8.out I9.out hK8 hK9)
      clear hK8 hK9
      refine held_call 15 (by kernel_rfl) rfl (by rfl) (fun K hK => ?_)
      go_simp
      refine hK.out _ _ (SK.out _ F8.out.2.2.2) (fun hHeld => ?_)
      try simp only [Act.put, List.setIfInBounds_toArray, List.set_cons_zero, List.set_cons_succ]
      refine held_take 16 (.int .i64 0) rfl (by kernel_rfl) (by kernel_rfl) (by kernel_rfl) (fun _ _ _ h => by obtain ⟨_, _, h, _⟩ := h; cases h) (by rfl) (by intro w' hS; go_simp) (by assumption) ?_
      try simp only [Act.put, List.setIfInBounds_toArray, List.set_cons_zero, List.set_cons_succ]
      refine wpAnyH_done (by kernel_rfl) ?_ _
      refine ⟨⟨w1.heap.size, A8, c8, A9, c9, _⟩, F8.out, rfl, ?_, rfl⟩
      simp only [Act.put, List.setIfInBounds_toArray, List.set_cons_zero, List.set_cons_succ]
  rintro ⟨q1, A8, c8, A9, c9, W8⟩ hq
  obtain ⟨i8, i9, gq, bq⟩ := hq
  have I8 := Lib.hid i8
  have I9 := Lib.hid i9
  have GQ := Lib.hid gq
  have BQ := Lib.hid bq
  clear i8 i9 gq bq GO1 t1 HV1 JV1 bV1 sV1
  simp only [Act.put, List.setIfInBounds_toArray, List.set_cons_zero, List.set_cons_succ] at BQ I8 I9 GQ ⊢
  have b3 := Lib.hid (b1.out.trans (BQ.out.mono b1.out.size))
  obtain ⟨j0, j1, -⟩ := SK.out W8 BQ.out
  go_wp2_with fail
  refine (GO2.out W8 b3.out).mono ?_
  rintro e w4 ⟨v', rfl, Z8, z8, Z9, z9, rfl, o8, o9, -, hb4⟩
  obtain ⟨wE, hwE, JZ, zE, nE⟩ := grid_box w4 (.slice Z8 x.sl z8) (.slice Z9 cl z9)
  have k4 := hb4.trans (zE.out.mono hb4.size)
  have K4 := Lib.hid (BQ.out.trans (k4.mono BQ.out.size))
  have b4 := Lib.hid (b3.out.trans (k4.mono b3.out.size))
  have GQ4 := Lib.hid (GQ.out.kept k4)
  have Z8I := Lib.hid ((row_ints o8 (by omega) HXS.out).kept zE.out)
  have Z9I := Lib.hid ((row_ints o9 (by omega) HXF.out).kept zE.out)
  have SK5 := Lib.hid (fun w' (hb : Below wE.heap.size wE w') => (show w'.cell? ⟨q1, 1, none⟩ = some (.slice A9 R c9) ∧ w'.cell? ⟨w.heap.size, 0, none⟩ = some (.slice (some ⟨sb, so, none⟩) x.sl x.sc) ∧ w'.cell? ⟨w.heap.size, 1, none⟩ = some (.slice x.ca cl x.cc) ∧ w'.cell? ⟨sb, so + k, none⟩ = some (.int .i64 side) ∧ w'.cell? ⟨w4.heap.size, 0, none⟩ = some (.slice Z8 x.sl z8) ∧ w'.cell? ⟨w4.heap.size, 1, none⟩ = some (.slice Z9 cl z9) from ⟨(GQ4.out.kept hb).see.2.1, (SK.out w' (K4.out.trans (hb.mono K4.out.size))).1, (SK.out w' (K4.out.trans (hb.mono K4.out.size))).2.1, (SK.out w' (K4.out.trans (hb.mono K4.out.size))).2.2, (JZ.out.kept hb).see.1, (JZ.out.kept hb).see.2.1⟩))
  have t5 := Lib.hid (show Below wE.heap.size wE wE.drew from (Below.refl _ _).drew)
  have EQ : Hid (∀ w1, Below wE.heap.size wE w1 → Calls Try.prog 23 #[.agg #[.slice Z8 x.sl z8, .slice Z9 cl z9], .agg #[.slice (some ⟨sb, so, none⟩) x.sl x.sc, .slice x.ca cl x.cc]] w1 fun e w' => e = .returned (.bool true) ∧ Below w1.heap.size w1 w') := Lib.hid (fun w1 hb => by
    have h0 := ATE.out w1 (b4.out.trans (hb.mono b4.out.size)) Z8 Z9 z8 z9 (Z8I.out.kept hb) (Z9I.out.kept hb)
    have e0 : sameT x.ss x.cs x.ss x.cs = true := by unfold sameT; rw [sameL_self, sameL_self]; rfl
    rw [e0] at h0
    exact h0)
  have hm2 : IntKind.i64.wrap ((R : Int) * (side : Int)) = (cl : Int) := hmul
  clear hb4 o8 o9 k4 GO2 ATE SK j0 j1
  go_upto_region 5 with (fail)
  rw [hwE.out]
  refine wp_region_held_drew (S := fun w' => w'.cell? ⟨q1, 1, none⟩ = some (.slice A9 R c9) ∧ w'.cell? ⟨w.heap.size, 0, none⟩ = some (.slice (some ⟨sb, so, none⟩) x.sl x.sc) ∧ w'.cell? ⟨w.heap.size, 1, none⟩ = some (.slice x.ca cl x.cc) ∧ w'.cell? ⟨sb, so + k, none⟩ = some (.int .i64 side) ∧ w'.cell? ⟨w4.heap.size, 0, none⟩ = some (.slice Z8 x.sl z8) ∧ w'.cell? ⟨w4.heap.size, 1, none⟩ = some (.slice Z9 cl z9)) (by kernel_rfl) (SK5.out _ t5.out) (fun hHeld => ?_)
  refine held_take 0 (.int .i64 0) rfl (by kernel_rfl) (by kernel_rfl) (by kernel_rfl) (fun _ _ _ h => h) (by rfl) (by intro w' hS; go_simp) (by assumption) ?_
  try simp only [Act.put, List.setIfInBounds_toArray, List.set_cons_zero, List.set_cons_succ]
  refine held_take 1 (.bool true) rfl (by kernel_rfl) (by kernel_rfl) (by kernel_rfl) (fun _ _ _ h => h) (by rfl) (by intro w' hS; go_simp) (by assumption) ?_
  try simp only [Act.put, List.setIfInBounds_toArray, List.set_cons_zero, List.set_cons_succ]
  refine held_take 2 (.bool true) rfl (by kernel_rfl) (by kernel_rfl) (by kernel_rfl) (fun _ _ _ h => h) (by rfl) (by intro w' hS; go_simp) (by assumption) ?_
  try simp only [Act.put, List.setIfInBounds_toArray, List.set_cons_zero, List.set_cons_succ]
  refine held_take 3 (.int .i64 0) rfl (by kernel_rfl) (by kernel_rfl) (by kernel_rfl) (fun _ _ _ h => h) (by rfl) (by intro w' hS; go_simp) (by assumption) ?_
  try simp only [Act.put, List.setIfInBounds_toArray, List.set_cons_zero, List.set_cons_succ]
  refine held_take 4 (.bool true) rfl (by kernel_rfl) (by kernel_rfl) (by kernel_rfl) (fun _ _ _ h => h) (by rfl) (by intro w' hS; go_simp) (by assumption) ?_
  try simp only [Act.put, List.setIfInBounds_toArray, List.set_cons_zero, List.set_cons_succ]
  refine held_take 5 (.bool true) rfl (by kernel_rfl) (by kernel_rfl) (by kernel_rfl) (fun _ _ _ h => h) (by rfl) (by intro w' hS; go_simp) (by assumption) ?_
  try simp only [Act.put, List.setIfInBounds_toArray, List.set_cons_zero, List.set_cons_succ]
  refine held_take 6 (.bool true) rfl (by kernel_rfl) (by kernel_rfl) (by kernel_rfl) (fun _ _ _ h => h) (by rfl) (by intro w' hS; go_simp) (by assumption) ?_
  try simp only [Act.put, List.setIfInBounds_toArray, List.set_cons_zero, List.set_cons_succ]
  refine held_take 7 (.pointer (some ⟨q1, 1, none⟩)) rfl (by kernel_rfl) (by kernel_rfl) (by kernel_rfl) (fun _ _ _ h => h) (by rfl) (by intro w' hS; go_simp) (by assumption) ?_
  try simp only [Act.put, List.setIfInBounds_toArray, List.set_cons_zero, List.set_cons_succ]
  refine held_take 8 (.slice A9 R c9) rfl (by kernel_rfl) (by kernel_rfl) (by kernel_rfl) (fun _ _ _ h => h) (by rfl) (by intro w' hS; go_simp) (by assumption) ?_
  try simp only [Act.put, List.setIfInBounds_toArray, List.set_cons_zero, List.set_cons_succ]
  refine held_take 9 (.int .i64 R) rfl (by kernel_rfl) (by kernel_rfl) (by kernel_rfl) (fun _ _ _ h => h) (by rfl) (by intro w' hS; go_simp) (by assumption) ?_
  try simp only [Act.put, List.setIfInBounds_toArray, List.set_cons_zero, List.set_cons_succ]
  refine held_take 10 (.pointer (some ⟨w.heap.size, 0, none⟩)) rfl (by kernel_rfl) (by kernel_rfl) (by kernel_rfl) (fun _ _ _ h => h) (by rfl) (by intro w' hS; go_simp) (by assumption) ?_
  try simp only [Act.put, List.setIfInBounds_toArray, List.set_cons_zero, List.set_cons_succ]
  refine held_take 11 (.slice (some ⟨sb, so, none⟩) x.sl x.sc) rfl (by kernel_rfl) (by kernel_rfl) (by kernel_rfl) (fun _ _ _ h => h) (by rfl) (by intro w' hS; go_simp) (by assumption) ?_
  try simp only [Act.put, List.setIfInBounds_toArray, List.set_cons_zero, List.set_cons_succ]
  refine held_take 12 (.pointer (some ⟨w.heap.size, 0, none⟩)) rfl (by kernel_rfl) (by kernel_rfl) (by kernel_rfl) (fun _ _ _ h => h) (by rfl) (by intro w' hS; go_simp) (by assumption) ?_
  try simp only [Act.put, List.setIfInBounds_toArray, List.set_cons_zero, List.set_cons_succ]
  refine held_take 13 (.slice (some ⟨sb, so, none⟩) x.sl x.sc) rfl (by kernel_rfl) (by kernel_rfl) (by kernel_rfl) (fun _ _ _ h => h) (by rfl) (by intro w' hS; go_simp) (by assumption) ?_
  try simp only [Act.put, List.setIfInBounds_toArray, List.set_cons_zero, List.set_cons_succ]
  refine held_take 14 (.int .i64 x.sl) rfl (by kernel_rfl) (by kernel_rfl) (by kernel_rfl) (fun _ _ _ h => h) (by rfl) (by intro w' hS; go_simp) (by assumption) ?_
  try simp only [Act.put, List.setIfInBounds_toArray, List.set_cons_zero, List.set_cons_succ]
  refine held_take 15 (.int .i64 k) rfl (by kernel_rfl) (by kernel_rfl) (by kernel_rfl) (fun _ _ _ h => h) (by rfl) (by intro w' hS; go_simp) (by assumption) ?_
  try simp only [Act.put, List.setIfInBounds_toArray, List.set_cons_zero, List.set_cons_succ]
  refine held_take 16 (.pointer (some ⟨sb, so + k, none⟩)) rfl (by kernel_rfl) (by kernel_rfl) (by kernel_rfl) (fun _ _ _ h => h) (by rfl) (by intro w' hS; go_simp) (by assumption) ?_
  try simp only [Act.put, List.setIfInBounds_toArray, List.set_cons_zero, List.set_cons_succ]
  refine held_take 17 (.int .i64 side) rfl (by kernel_rfl) (by kernel_rfl) (by kernel_rfl) (fun _ _ _ h => h) (by rfl) (by intro w' hS; go_simp) (by assumption) ?_
  try simp only [Act.put, List.setIfInBounds_toArray, List.set_cons_zero, List.set_cons_succ]
  refine held_take 18 (.int .i64 cl) rfl (by kernel_rfl) (by kernel_rfl) (by kernel_rfl) (fun _ _ _ h => h) (by rfl) (by intro w' hS; go_simp) (by assumption) ?_
  try simp only [Act.put, List.setIfInBounds_toArray, List.set_cons_zero, List.set_cons_succ]
  refine held_take 19 (.pointer (some ⟨w.heap.size, 1, none⟩)) rfl (by kernel_rfl) (by kernel_rfl) (by kernel_rfl) (fun _ _ _ h => h) (by rfl) (by intro w' hS; go_simp) (by assumption) ?_
  try simp only [Act.put, List.setIfInBounds_toArray, List.set_cons_zero, List.set_cons_succ]
  refine held_take 20 (.slice x.ca cl x.cc) rfl (by kernel_rfl) (by kernel_rfl) (by kernel_rfl) (fun _ _ _ h => h) (by rfl) (by intro w' hS; go_simp) (by assumption) ?_
  try simp only [Act.put, List.setIfInBounds_toArray, List.set_cons_zero, List.set_cons_succ]
  refine held_take 21 (.int .i64 cl) rfl (by kernel_rfl) (by kernel_rfl) (by kernel_rfl) (fun _ _ _ h => h) (by rfl) (by intro w' hS; go_simp) (by assumption) ?_
  try simp only [Act.put, List.setIfInBounds_toArray, List.set_cons_zero, List.set_cons_succ]
  refine held_take 22 (.bool true) rfl (by kernel_rfl) (by kernel_rfl) (by kernel_rfl) (fun _ _ _ h => h) (by rfl) (by intro w' hS; go_simp) (by assumption) ?_
  try simp only [Act.put, List.setIfInBounds_toArray, List.set_cons_zero, List.set_cons_succ]
  refine held_take 23 (.bool true) rfl (by kernel_rfl) (by kernel_rfl) (by kernel_rfl) (fun _ _ _ h => h) (by rfl) (by intro w' hS; go_simp) (by assumption) ?_
  try simp only [Act.put, List.setIfInBounds_toArray, List.set_cons_zero, List.set_cons_succ]
  refine held_take 24 (.bool true) rfl (by kernel_rfl) (by kernel_rfl) (by kernel_rfl) (fun _ _ _ h => h) (by rfl) (by intro w' hS; go_simp) (by assumption) ?_
  try simp only [Act.put, List.setIfInBounds_toArray, List.set_cons_zero, List.set_cons_succ]
  refine held_take 25 (.agg #[.slice Z8 x.sl z8, .slice Z9 cl z9]) rfl (by kernel_rfl) (by kernel_rfl) (by kernel_rfl) (fun _ _ _ h => h) (by rfl) (by intro w' hS; go_simp) (by assumption) ?_
  try simp only [Act.put, List.setIfInBounds_toArray, List.set_cons_zero, List.set_cons_succ]
  refine held_take 26 (.agg #[.slice (some ⟨sb, so, none⟩) x.sl x.sc, .slice x.ca cl x.cc]) rfl (by kernel_rfl) (by kernel_rfl) (by kernel_rfl) (fun _ _ _ h => h) (by rfl) (by intro w' hS; go_simp) (by assumption) ?_
  try simp only [Act.put, List.setIfInBounds_toArray, List.set_cons_zero, List.set_cons_succ]
  refine held_call 27 (by kernel_rfl) rfl (by rfl) (fun K hK => ?_)
  go_simp
  refine (EQ.out wE.drew t5.out).mono ?_
  rintro e w5 ⟨rfl, hb5⟩
  have b5 := Lib.hid (t5.out.trans (hb5.mono t5.out.size))
  clear hb5
  go_wp2_with fail
  refine hK.out _ _ (SK5.out _ b5.out) (fun hHeld => ?_)
  try simp only [Act.put, List.setIfInBounds_toArray, List.set_cons_zero, List.set_cons_succ]
  refine held_take 28 (.bool true) rfl (by kernel_rfl) (by kernel_rfl) (by kernel_rfl) (fun _ _ _ h => h) (by rfl) (by intro w' hS; go_simp) (by assumption) ?_
  try simp only [Act.put, List.setIfInBounds_toArray, List.set_cons_zero, List.set_cons_succ]
  refine held_take 29 (.bool true) rfl (by kernel_rfl) (by kernel_rfl) (by kernel_rfl) (fun _ _ _ h => h) (by rfl) (by intro w' hS; go_simp) (by assumption) ?_
  try simp only [Act.put, List.setIfInBounds_toArray, List.set_cons_zero, List.set_cons_succ]
  refine held_call 30 (by kernel_rfl) rfl (by rfl) (fun K hK => ?_)
  go_simp
  refine (awake08_any _).mono ?_
  rintro e w6 ⟨rfl, hb6⟩
  have b6 := Lib.hid (b5.out.trans (hb6.mono b5.out.size))
  clear hb6
  go_wp2_with fail
  refine hK.out _ _ (SK5.out _ b6.out) (fun hHeld => ?_)
  try simp only [Act.put, List.setIfInBounds_toArray, List.set_cons_zero, List.set_cons_succ]
  refine held_take 31 (.bool true) rfl (by kernel_rfl) (by kernel_rfl) (by kernel_rfl) (fun _ _ _ h => h) (by rfl) (by intro w' hS; go_simp) (by assumption) ?_
  try simp only [Act.put, List.setIfInBounds_toArray, List.set_cons_zero, List.set_cons_succ]
  refine held_take 32 (.bool true) rfl (by kernel_rfl) (by kernel_rfl) (by kernel_rfl) (fun _ _ _ h => h) (by rfl) (by intro w' hS; go_simp) (by assumption) ?_
  try simp only [Act.put, List.setIfInBounds_toArray, List.set_cons_zero, List.set_cons_succ]
  refine wpAnyH_done (by kernel_rfl) ?_ _
  go_wp2_with fail
  go_ret
  exact ⟨rfl, b4.out.trans (b6.out.mono b4.out.size)⟩

theorem poolWhole_walk (kd : Int) (x : TV) (w : World) (b0 : -9223372036854775808 ≤ kd) (c0 : kd ≤ 9223372036854775807) (hx : x.At w) (hc : x.Cap) :
    Calls Try.prog 7 #[.int .i64 kd, .agg #[.slice x.sa x.sl x.sc, .slice x.ca x.cl x.cc]] w fun e w' => e = .returned (.bool true) ∧ Below w.heap.size w w' := by
  by_cases hn : x.sl ≤ 9 ∧ x.cl ≤ 600 ∧ rightT x.ss x.cl = true ∧ (kd = 1 ∨ kd = 2)
  · obtain ⟨c1, c2, c3, rfl | rfl⟩ := hn
    · exact poolWhole_1 x w ⟨hx, hc⟩ c1 c2 c3
    · exact poolWhole_2 x w ⟨hx, hc⟩ c1 c2 c3
  · exact poolWhole_no kd x w hx hn
end Go.Proofs.Ytdimpgojamhakaa

