/-
  The contract of package point's Back.
-/
import Derived.Test.YtilocmdanjekhaaPtD
import Derived.Test.YtilocmdanjekhaaMany
namespace Go.Proofs.Ytilocmdanjekhaa
open Go.RowKit
set_option linter.unusedVariables false
set_option linter.unusedSimpArgs false

/-- The gradients' cells. -/
def bxL (kind k : Int) (xs : List Int) (ts : List TV) (gs : List Int) : List Int := gs.mapIdx fun j g => pslx kind k (xs.getD j 0) (otherN ts j) g
def byL (kind : Int) (xs : List Int) (gs : List Int) : List Int := gs.mapIdx fun j g => psly kind (xs.getD j 0) g
theorem bxL_length (kind k : Int) (xs : List Int) (ts : List TV) (gs : List Int) : (bxL kind k xs ts gs).length = gs.length := by simp [bxL]
theorem byL_length (kind : Int) (xs gs : List Int) : (byL kind xs gs).length = gs.length := by simp [byL]
theorem bxL_get {kind k : Int} {xs : List Int} {ts : List TV} {gs : List Int} {j : Nat} (h : j < gs.length) : (bxL kind k xs ts gs).getD j 0 = pslx kind k (xs.getD j 0) (otherN ts j) (gs.getD j 0) := by
  simp [bxL, List.getD, List.getElem?_eq_getElem h]
theorem byL_get {kind : Int} {xs gs : List Int} {j : Nat} (h : j < gs.length) : (byL kind xs gs).getD j 0 = psly kind (xs.getD j 0) (gs.getD j 0) := by
  simp [byL, List.getD, List.getElem?_eq_getElem h]
theorem bxL_fits {kind k : Int} {xs : List Int} {ts : List TV} {gs : List Int} (h : Fits gs) : Fits (bxL kind k xs ts gs) := by
  intro n hn
  unfold bxL at hn
  obtain ⟨j, hj, rfl⟩ := List.mem_mapIdx.1 hn
  exact pslx_bounds (h _ (List.getElem_mem _)).1 (h _ (List.getElem_mem _)).2
theorem byL_fits {kind : Int} {xs gs : List Int} (h : Fits gs) : Fits (byL kind xs gs) := by
  intro n hn
  unfold byL at hn
  obtain ⟨j, hj, rfl⟩ := List.mem_mapIdx.1 hn
  exact psly_bounds (h _ (List.getElem_mem _)).1 (h _ (List.getElem_mem _)).2
/-- The lists of cells that go back. -/
def backR (kind k : Int) (xs : List Int) (ts : List TV) (gs : List Int) : List (List Int) := if insN kind = 1 then [bxL kind k xs ts gs] else [bxL kind k xs ts gs, byL kind xs gs]

/-- No list and this error. -/
def NilG (w : World) (x : Int) (e : Ending) (w' : World) : Prop := e = .returned (.tuple #[.slice none 0 0, .int .i64 x]) ∧ Below w.heap.size w w'
/-- A new list of new tensors of one shape, and no error. -/
def OkG (w : World) (sl : Nat) (ss : List Int) (cl : Nat) (rs : List (List Int)) (e : Ending) (w' : World) : Prop :=
  ∃ (M n : Nat) (us : List TV), e = .returned (.tuple #[.slice (some ⟨M, 0, none⟩) n n, .int .i64 0]) ∧ us.map TV.cs = rs ∧ us.length = n ∧ (∀ u ∈ us, u.sl = sl ∧ u.ss = ss ∧ u.cl = cl) ∧ w.heap.size ≤ M ∧
    w'.ownsRow M 30 2 (.slice (some ⟨M, 0, none⟩) n n) n (gcells us) ∧ Many w' (M + 1) us ∧ Below w.heap.size w w'

theorem gridInfo : (Try.prog.info? 30).map (fun i => (i.zero, i.size, i.bytes)) = some (some (.agg #[.slice none 0 0, .slice none 0 0]), 2, 48) := by kernel_rfl
theorem toList_madeCells_two (z : Value) (n : Nat) : (madeCells #[z, z] n).toList = List.replicate n z := by
  apply List.ext_getElem?
  intro j
  by_cases hj : j < n
  · have : j % 2 = 0 ∨ j % 2 = 1 := by omega
    rcases this with h | h <;> simp [madeCells, hj, h]
  · simp [madeCells, hj]
theorem g_made (len : Nat) (hl : len ≤ 1000) : ∀ w, (Instr.makeSlice 23 (.int .i64 len) (.int .i64 len)).run Try.prog w = .ok (.slice (some ⟨w.heap.size, 0, none⟩) len len) (w.alloc (.cells (madeCells #[nilS, nilS] (len * 2)) 30)) := by
  intro w
  obtain ⟨i0, hi, hz0, hz1, hz2⟩ := info_parts gridInfo
  have := run_make (P := Try.prog) w 23 30 i0 _ Try.underlying23 hi hz0 .i64 .i64 len len (by omega) (by omega) (by rw [hz2]; omega) (by omega)
  rw [this, hz1]
  simp [Value.cells, nilS]
theorem g_made_row (w : World) (len : Nat) (hl : len ≤ 1000) : (w.alloc (.cells (madeCells #[nilS, nilS] (len * 2)) 30)).ownsRow w.heap.size 30 2 (.slice (some ⟨w.heap.size, 0, none⟩) len len) len (gpart [] len) := by
  have := World.ownsRow_lit w (base := w.heap.size) (e := 30) (size := 2) (madeCells #[nilS, nilS] (len * 2)) len (Nat.le_refl _) (by unfold maxLen; omega) (by rw [size_madeCells])
  rw [toList_madeCells_two] at this
  rw [gpart_nil]
  exact this

set_option maxRecDepth 100000 in
set_option maxHeartbeats 1000000 in
theorem pback_no1 (kind k : Int) (G : TV) (a : Option Addr) (len cap : Nat) (ts : List TV) (w : World) (h : GsAt w a len ts) (hE : ¬ faultE kind ts = 0) :
    Calls Try.prog 14 #[.int .i64 kind, .int .i64 k, .agg #[.slice G.sa G.sl G.sc, .slice G.ca G.cl G.cc], .slice a len cap] w (NilG w (faultE kind ts)) := by
  obtain ⟨wB, hwB, J, z, n1⟩ := grid_box w (.slice G.sa G.sl G.sc) (.slice G.ca G.cl G.cc)
  have C := fault_any kind a len cap ts wB (h.kept z.out)
  obtain ⟨x, hx⟩ : ∃ x, faultE kind ts = x := ⟨_, rfl⟩
  rw [hx] at C hE ⊢
  have C1 := Lib.hid C
  clear h C hx
  go_enter Try.func14, Try.ntmps14
  go_upto_region 1 with (fail)
  rw [hwB.out]
  go_wp2_with fail
  refine C1.out.mono ?_
  rintro e w1 ⟨rfl, hb1⟩
  go_wp2_with fail
  go_ret2
  exact ⟨rfl, z.out.trans (hb1.mono z.out.size)⟩

set_option maxRecDepth 100000 in
set_option maxHeartbeats 2000000 in
theorem pback_no2 (kind k : Int) (G : TV) (a : Option Addr) (len cap : Nat) (ts : List TV) (w : World) (h : GsAt w a len ts) (hG : G.At w) (hE : faultE kind ts = 0) (t0 : TV) (ht0 : ts[0]? = some t0) (hr : (rightT G.ss G.cl && sameL G.ss t0.ss) = false) :
    Calls Try.prog 14 #[.int .i64 kind, .int .i64 k, .agg #[.slice G.sa G.sl G.sc, .slice G.ca G.cl G.cc], .slice a len cap] w (NilG w 20) := by
  obtain ⟨wB, hwB, J, z, n1⟩ := grid_box w (.slice G.sa G.sl G.sc) (.slice G.ca G.cl G.cc)
  have C := fault_any kind a len cap ts wB (h.kept z.out)
  rw [hE] at C
  have C1 := Lib.hid C
  have h0 : 0 < len := by
    have := h.1
    have := (List.getElem?_eq_some_iff.1 ht0).1
    omega
  obtain ⟨t, b, off, ht, rfl, c0, c1, hAt⟩ := h.at h0
  obtain rfl : t = t0 := by rw [ht] at ht0; exact Option.some.inj ht0
  have R1 := Lib.hid (fun w1 (hb : Below w.heap.size w w1) => tright_any G.sa G.sl G.sc G.ss G.ca G.cl G.cc w1 (hG.1.kept hb) (by have := hG.2.2.2; omega))
  have R2 := Lib.hid (fun w1 (hb : Below w.heap.size w w1) => sliceEqual_any G.sa G.sl G.sc G.ss t.sa t.sl t.sc t.ss w1 (hG.1.kept hb) (hAt.1.kept hb))
  have F1 := Lib.hid (fun w1 (hb : Below wB.heap.size wB w1) => (J.out.kept hb).see)
  have F2 := Lib.hid (fun w1 (hb : Below w.heap.size w w1) => cell_later hb c0)
  simp only [Nat.zero_mul, Nat.add_zero] at F2
  have hp0 : ¬ len = 0 := by omega
  cases r : rightT G.ss G.cl
  · rw [r] at R1
    clear h C hE ht ht0 c0 c1 hAt hG hr r
    go_enter Try.func14, Try.ntmps14
    go_upto_region 1 with (fail)
    rw [hwB.out]
    go_wp2_with fail
    refine C1.out.mono ?_
    rintro e w1 ⟨rfl, hb1⟩
    have b1 := Lib.hid (z.out.trans (hb1.mono z.out.size))
    have SK := Lib.hid (fun w' (hb : Below w1.heap.size w1 w') => (⟨(F1.out w' (hb1.trans (hb.mono hb1.size))).1, (F1.out w' (hb1.trans (hb.mono hb1.size))).2.1, F2.out w' (b1.out.trans (hb.mono b1.out.size))⟩ : w'.cell? ⟨w.heap.size, 0, none⟩ = some (.slice G.sa G.sl G.sc) ∧ w'.cell? ⟨w.heap.size, 1, none⟩ = some (.slice G.ca G.cl G.cc) ∧ w'.cell? ⟨b, off, none⟩ = some (.slice t.sa t.sl t.sc)))
    have R1' := Lib.hid (fun w' (hb : Below w1.heap.size w1 w') => R1.out w' (b1.out.trans (hb.mono b1.out.size)))
    have R2' := Lib.hid (fun w' (hb : Below w1.heap.size w1 w') => R2.out w' (b1.out.trans (hb.mono b1.out.size)))
    have t1 : Below w1.heap.size w1 w1.drew := (Below.refl _ _).drew
    have u1 := SK.out _ t1
    have t1' := Lib.hid t1
    clear t1 R1 R2 F2
    go_upto_region 4 with (fail)
    refine wp_region_held_drew (S := fun w' => w'.cell? ⟨w.heap.size, 0, none⟩ = some (.slice G.sa G.sl G.sc) ∧ w'.cell? ⟨w.heap.size, 1, none⟩ = some (.slice G.ca G.cl G.cc) ∧ w'.cell? ⟨b, off, none⟩ = some (.slice t.sa t.sl t.sc)) (by kernel_rfl) u1 (fun hHeld => ?_)
    refine held_take 0 (.agg #[.slice G.sa G.sl G.sc, .slice G.ca G.cl G.cc]) rfl (by kernel_rfl) (by kernel_rfl) (by kernel_rfl) (fun _ _ _ h => h) (by rfl) (by intro w' hS; go_simp) (by assumption) ?_
    try simp only [Act.put, List.setIfInBounds_toArray, List.set_cons_zero, List.set_cons_succ]
    refine held_call 1 (by kernel_rfl) rfl (by rfl) (fun K hK => ?_)
    go_simp
    refine (R1'.out _ t1'.out).mono ?_
    rintro e w2 ⟨rfl, hb⟩
    go_wp2_with fail
    refine hK.out _ _ (SK.out w2 (t1'.out.trans (hb.mono (Nat.le_refl _)))) (fun hHeld => ?_)
    try simp only [Act.put, List.setIfInBounds_toArray, List.set_cons_zero, List.set_cons_succ]
    refine held_take 2 (.bool true) rfl (by kernel_rfl) (by kernel_rfl) (by kernel_rfl) (fun _ _ _ h => h) (by rfl) (by intro w' hS; go_simp) (by assumption) ?_
    try simp only [Act.put, List.setIfInBounds_toArray, List.set_cons_zero, List.set_cons_succ]
    refine held_take 3 (.bool true) rfl (by kernel_rfl) (by kernel_rfl) (by kernel_rfl) (fun _ _ _ h => h) (by rfl) (by intro w' hS; go_simp) (by assumption) ?_
    try simp only [Act.put, List.setIfInBounds_toArray, List.set_cons_zero, List.set_cons_succ]
    refine held_skip 4 rfl (by kernel_rfl) (by kernel_rfl) (by kernel_rfl) (fun _ _ _ h => h) (by rfl) (by assumption) ?_
    try simp only [Act.put, List.setIfInBounds_toArray, List.set_cons_zero, List.set_cons_succ]
    refine held_skip 5 rfl (by kernel_rfl) (by kernel_rfl) (by kernel_rfl) (fun _ _ _ h => h) (by rfl) (by assumption) ?_
    try simp only [Act.put, List.setIfInBounds_toArray, List.set_cons_zero, List.set_cons_succ]
    refine held_skip 6 rfl (by kernel_rfl) (by kernel_rfl) (by kernel_rfl) (fun _ _ _ h => h) (by rfl) (by assumption) ?_
    try simp only [Act.put, List.setIfInBounds_toArray, List.set_cons_zero, List.set_cons_succ]
    refine held_skip 7 rfl (by kernel_rfl) (by kernel_rfl) (by kernel_rfl) (fun _ _ _ h => h) (by rfl) (by assumption) ?_
    try simp only [Act.put, List.setIfInBounds_toArray, List.set_cons_zero, List.set_cons_succ]
    refine held_skip 8 rfl (by kernel_rfl) (by kernel_rfl) (by kernel_rfl) (fun _ _ _ h => h) (by rfl) (by assumption) ?_
    try simp only [Act.put, List.setIfInBounds_toArray, List.set_cons_zero, List.set_cons_succ]
    refine held_skip 9 rfl (by kernel_rfl) (by kernel_rfl) (by kernel_rfl) (fun _ _ _ h => h) (by rfl) (by assumption) ?_
    try simp only [Act.put, List.setIfInBounds_toArray, List.set_cons_zero, List.set_cons_succ]
    refine held_left 10 (by kernel_rfl) rfl (by rfl) (by assumption) ?_
    try simp only [Act.put, List.setIfInBounds_toArray, List.set_cons_zero, List.set_cons_succ]
    refine held_skip 11 rfl (by kernel_rfl) (by kernel_rfl) (by kernel_rfl) (fun _ _ _ h => h) (by rfl) (by assumption) ?_
    try simp only [Act.put, List.setIfInBounds_toArray, List.set_cons_zero, List.set_cons_succ]
    refine held_take 12 (.bool true) rfl (by kernel_rfl) (by kernel_rfl) (by kernel_rfl) (fun _ _ _ h => h) (by rfl) (by intro w' hS; go_simp) (by assumption) ?_
    try simp only [Act.put, List.setIfInBounds_toArray, List.set_cons_zero, List.set_cons_succ]
    refine wpAnyH_done (by kernel_rfl) ?_ _
    go_wp2_with fail
    go_ret2
    exact ⟨rfl, b1.out.trans ((t1'.out.trans (hb.mono (Nat.le_refl _))).mono b1.out.size)⟩
  · rw [r] at R1
    have r2 : sameL G.ss t.ss = false := by simpa [r] using hr
    rw [r2] at R2
    clear h C hE ht ht0 c0 c1 hAt hG hr r r2
    go_enter Try.func14, Try.ntmps14
    go_upto_region 1 with (fail)
    rw [hwB.out]
    go_wp2_with fail
    refine C1.out.mono ?_
    rintro e w1 ⟨rfl, hb1⟩
    have b1 := Lib.hid (z.out.trans (hb1.mono z.out.size))
    have SK := Lib.hid (fun w' (hb : Below w1.heap.size w1 w') => (⟨(F1.out w' (hb1.trans (hb.mono hb1.size))).1, (F1.out w' (hb1.trans (hb.mono hb1.size))).2.1, F2.out w' (b1.out.trans (hb.mono b1.out.size))⟩ : w'.cell? ⟨w.heap.size, 0, none⟩ = some (.slice G.sa G.sl G.sc) ∧ w'.cell? ⟨w.heap.size, 1, none⟩ = some (.slice G.ca G.cl G.cc) ∧ w'.cell? ⟨b, off, none⟩ = some (.slice t.sa t.sl t.sc)))
    have R1' := Lib.hid (fun w' (hb : Below w1.heap.size w1 w') => R1.out w' (b1.out.trans (hb.mono b1.out.size)))
    have R2' := Lib.hid (fun w' (hb : Below w1.heap.size w1 w') => R2.out w' (b1.out.trans (hb.mono b1.out.size)))
    have t1 : Below w1.heap.size w1 w1.drew := (Below.refl _ _).drew
    have u1 := SK.out _ t1
    have t1' := Lib.hid t1
    clear t1 R1 R2 F2
    go_upto_region 4 with (fail)
    refine wp_region_held_drew (S := fun w' => w'.cell? ⟨w.heap.size, 0, none⟩ = some (.slice G.sa G.sl G.sc) ∧ w'.cell? ⟨w.heap.size, 1, none⟩ = some (.slice G.ca G.cl G.cc) ∧ w'.cell? ⟨b, off, none⟩ = some (.slice t.sa t.sl t.sc)) (by kernel_rfl) u1 (fun hHeld => ?_)
    refine held_take 0 (.agg #[.slice G.sa G.sl G.sc, .slice G.ca G.cl G.cc]) rfl (by kernel_rfl) (by kernel_rfl) (by kernel_rfl) (fun _ _ _ h => h) (by rfl) (by intro w' hS; go_simp) (by assumption) ?_
    try simp only [Act.put, List.setIfInBounds_toArray, List.set_cons_zero, List.set_cons_succ]
    refine held_call 1 (by kernel_rfl) rfl (by rfl) (fun K hK => ?_)
    go_simp
    refine (R1'.out _ t1'.out).mono ?_
    rintro e w2 ⟨rfl, hb⟩
    go_wp2_with fail
    refine hK.out _ _ (SK.out w2 (t1'.out.trans (hb.mono (Nat.le_refl _)))) (fun hHeld => ?_)
    try simp only [Act.put, List.setIfInBounds_toArray, List.set_cons_zero, List.set_cons_succ]
    refine held_take 2 (.bool false) rfl (by kernel_rfl) (by kernel_rfl) (by kernel_rfl) (fun _ _ _ h => h) (by rfl) (by intro w' hS; go_simp) (by assumption) ?_
    try simp only [Act.put, List.setIfInBounds_toArray, List.set_cons_zero, List.set_cons_succ]
    refine held_take 3 (.bool false) rfl (by kernel_rfl) (by kernel_rfl) (by kernel_rfl) (fun _ _ _ h => h) (by rfl) (by intro w' hS; go_simp) (by assumption) ?_
    try simp only [Act.put, List.setIfInBounds_toArray, List.set_cons_zero, List.set_cons_succ]
    refine held_take 4 (.pointer (some ⟨w.heap.size, 0, none⟩)) rfl (by kernel_rfl) (by kernel_rfl) (by kernel_rfl) (fun _ _ _ h => h) (by rfl) (by intro w' hS; go_simp) (by assumption) ?_
    try simp only [Act.put, List.setIfInBounds_toArray, List.set_cons_zero, List.set_cons_succ]
    refine held_take 5 (.slice G.sa G.sl G.sc) rfl (by kernel_rfl) (by kernel_rfl) (by kernel_rfl) (fun _ _ _ h => h) (by rfl) (by intro w' hS; go_simp) (by assumption) ?_
    try simp only [Act.put, List.setIfInBounds_toArray, List.set_cons_zero, List.set_cons_succ]
    refine held_take 6 (.slice (some ⟨b, off, none⟩) len cap) rfl (by kernel_rfl) (by kernel_rfl) (by kernel_rfl) (fun _ _ _ h => h) (by rfl) (by intro w' hS; go_simp) (by assumption) ?_
    try simp only [Act.put, List.setIfInBounds_toArray, List.set_cons_zero, List.set_cons_succ]
    refine held_take 7 (.pointer (some ⟨b, off, none⟩)) rfl (by kernel_rfl) (by kernel_rfl) (by kernel_rfl) (fun _ _ _ h => h) (by rfl) (by intro w' hS; go_simp) (by assumption) ?_
    try simp only [Act.put, List.setIfInBounds_toArray, List.set_cons_zero, List.set_cons_succ]
    refine held_take 8 (.pointer (some ⟨b, off, none⟩)) rfl (by kernel_rfl) (by kernel_rfl) (by kernel_rfl) (fun _ _ _ h => h) (by rfl) (by intro w' hS; go_simp) (by assumption) ?_
    try simp only [Act.put, List.setIfInBounds_toArray, List.set_cons_zero, List.set_cons_succ]
    refine held_take 9 (.slice t.sa t.sl t.sc) rfl (by kernel_rfl) (by kernel_rfl) (by kernel_rfl) (fun _ _ _ h => h) (by rfl) (by intro w' hS; go_simp) (by assumption) ?_
    try simp only [Act.put, List.setIfInBounds_toArray, List.set_cons_zero, List.set_cons_succ]
    refine held_call 10 (by kernel_rfl) rfl (by rfl) (fun K hK => ?_)
    go_simp
    refine (R2'.out w2 (t1'.out.trans (hb.mono (Nat.le_refl _)))).mono ?_
    rintro e w3 ⟨rfl, m, rfl⟩
    go_wp2_with fail
    refine hK.out _ _ (SK.out _ (below_drewN' (t1'.out.trans (hb.mono (Nat.le_refl _))) m)) (fun hHeld => ?_)
    try simp only [Act.put, List.setIfInBounds_toArray, List.set_cons_zero, List.set_cons_succ]
    refine held_take 11 (.bool true) rfl (by kernel_rfl) (by kernel_rfl) (by kernel_rfl) (fun _ _ _ h => h) (by rfl) (by intro w' hS; go_simp) (by assumption) ?_
    try simp only [Act.put, List.setIfInBounds_toArray, List.set_cons_zero, List.set_cons_succ]
    refine held_take 12 (.bool true) rfl (by kernel_rfl) (by kernel_rfl) (by kernel_rfl) (fun _ _ _ h => h) (by rfl) (by intro w' hS; go_simp) (by assumption) ?_
    try simp only [Act.put, List.setIfInBounds_toArray, List.set_cons_zero, List.set_cons_succ]
    refine wpAnyH_done (by kernel_rfl) ?_ _
    go_wp2_with fail
    go_ret2
    exact ⟨rfl, b1.out.trans ((below_drewN' (t1'.out.trans (hb.mono (Nat.le_refl _))) m).mono b1.out.size)⟩

set_option maxRecDepth 100000 in
set_option maxHeartbeats 8000000 in
theorem pback_ok (kind k : Int) (G : TV) (a : Option Addr) (len cap : Nat) (ts : List TV) (w : World) (h : GsAt w a len ts) (hG : G.At w) (hE : faultE kind ts = 0) (t0 : TV) (ht0 : ts[0]? = some t0) (hr : rightT G.ss G.cl = true) (hs : sameL G.ss t0.ss = true) (hcl : G.cl ≤ 1000) (hk1 : -9223372036854775808 ≤ k) (hk2 : k ≤ 9223372036854775807) :
    Calls Try.prog 14 #[.int .i64 kind, .int .i64 k, .agg #[.slice G.sa G.sl G.sc, .slice G.ca G.cl G.cc], .slice a len cap] w (OkG w G.sl G.ss G.cl (backR kind k t0.cs ts G.cs)) := by
  obtain ⟨wB, hwB, J, z, n1⟩ := grid_box w (.slice G.sa G.sl G.sc) (.slice G.ca G.cl G.cc)
  have C := fault_any kind a len cap ts wB (h.kept z.out)
  rw [hE] at C
  have C1 := Lib.hid C
  have h0 : 0 < len := by
    have := h.1
    have := (List.getElem?_eq_some_iff.1 ht0).1
    omega
  obtain ⟨t, b, off, ht, rfl, c0, c1, hAt⟩ := h.at h0
  obtain rfl : t = t0 := by rw [ht] at ht0; exact Option.some.inj ht0
  have R1 := Lib.hid (fun w1 (hb : Below w.heap.size w w1) => tright_any G.sa G.sl G.sc G.ss G.ca G.cl G.cc w1 (hG.1.kept hb) (by have := hG.2.2.2; omega))
  have R2 := Lib.hid (fun w1 (hb : Below w.heap.size w w1) => sliceEqual_any G.sa G.sl G.sc G.ss t.sa t.sl t.sc t.ss w1 (hG.1.kept hb) (hAt.1.kept hb))
  have F1 := Lib.hid (fun w1 (hb : Below wB.heap.size wB w1) => (J.out.kept hb).see)
  have F2 := Lib.hid (fun w1 (hb : Below w.heap.size w w1) => cell_later hb c0)
  simp only [Nat.zero_mul, Nat.add_zero] at F2
  have hp0 : ¬ len = 0 := by omega
  rw [hr] at R1
  rw [hs] at R2
  obtain ⟨g1, g2, g3⟩ := fault_good hE
  obtain ⟨r1, r2⟩ := okTs_at g3 ht
  have hcl0 := rightT_pos5 hr
  have es : G.ss = t.ss := sameL_eq hs
  have hclt : G.cl = t.cl := by
    have e1 := (rightT_parts hr).2
    have e2 := (rightT_parts r1).2
    rw [es] at e1
    omega
  have hGs : G.sl ≤ 1000 := by have := hG.1.1; have := rightT_side hr; omega
  have hkind := Lib.hid (insN_cases kind)
  have hlenk := Lib.hid (h.1 ▸ g2 : (len : Int) = insN kind)
  have hl2 : len ≤ 2 := by
    have := hlenk.out
    rcases hkind.out with ⟨e, -⟩ | ⟨e, -⟩ | ⟨e, -⟩ <;> omega
  obtain ⟨bg, og, eG, hGc⟩ : ∃ bg og, G.ca = some ⟨bg, og, none⟩ ∧ ∀ j, j < G.cl → w.cell? ⟨bg, og + j, none⟩ = some (.int .i64 (G.cs.getD j 0)) := by
    rcases hG.2.1.2.2.2 with h4 | ⟨bg, og, ha, hc⟩
    · omega
    · exact ⟨bg, og, ha, hc⟩
  have HG := Lib.hid (fun j (hj : j < G.cl) w1 (hb : Below w.heap.size w w1) => cell_later hb (hGc j hj))
  have D := Lib.hid (fun w1 (hb : Below w.heap.size w w1) => tcopy_any G.sa G.sl G.sc G.ss G.ca G.cl G.cc G.cs w1 (hG.1.kept hb) hGs (hG.2.1.kept hb) hcl)
  have HC := Lib.hid (fun j (hj : j < G.cl) w1 (hb : Below w.heap.size w w1) => cells_any (some ⟨b, off, none⟩) len cap ts j w1 (h.kept hb) h0 t ht (by rw [← hclt]; exact hj) (fun u hu => by rw [okTs_len g3 ht hu, ← hclt]; exact hj))
  have HB := Lib.hid (fun j => otherN_bounds h j)
  have hfT := Lib.hid hAt.2.1.2.2.1
  have hfG := Lib.hid hG.2.1.2.2.1
  have hfGs := Lib.hid hG.1.2.2.1
  have hlG := Lib.hid hG.2.1.1
  have hlT := Lib.hid (show t.cs.length = G.cl by rw [hclt]; exact hAt.2.1.1)
  have hk := Lib.hid (And.intro hk1 hk2)
  have hGs' := Lib.hid hGs
  have hcl' := Lib.hid hcl
  have eG' := Lib.hid eG
  clear h C hE g1 g2 g3 r1 r2 ht ht0 c0 c1 hAt hG hr hs es hclt hk1 hk2 eG hGc hGs
  go_enter Try.func14, Try.ntmps14
  go_upto_region 1 with (fail)
  rw [hwB.out]
  go_wp2_with fail
  refine C1.out.mono ?_
  rintro e w1 ⟨rfl, hb1⟩
  have b1 := Lib.hid (z.out.trans (hb1.mono z.out.size))
  have SK := Lib.hid (fun w' (hb : Below w1.heap.size w1 w') => (⟨(F1.out w' (hb1.trans (hb.mono hb1.size))).1, (F1.out w' (hb1.trans (hb.mono hb1.size))).2.1, F2.out w' (b1.out.trans (hb.mono b1.out.size))⟩ : w'.cell? ⟨w.heap.size, 0, none⟩ = some (.slice G.sa G.sl G.sc) ∧ w'.cell? ⟨w.heap.size, 1, none⟩ = some (.slice G.ca G.cl G.cc) ∧ w'.cell? ⟨b, off, none⟩ = some (.slice t.sa t.sl t.sc)))
  have R1' := Lib.hid (fun w' (hb : Below w1.heap.size w1 w') => R1.out w' (b1.out.trans (hb.mono b1.out.size)))
  have R2' := Lib.hid (fun w' (hb : Below w1.heap.size w1 w') => R2.out w' (b1.out.trans (hb.mono b1.out.size)))
  have t1 : Below w1.heap.size w1 w1.drew := (Below.refl _ _).drew
  have u1 := SK.out _ t1
  have t1' := Lib.hid t1
  clear t1 R1 R2 F2
  go_upto_region 4 with (fail)
  refine wp_region_held_drew (S := fun w' => w'.cell? ⟨w.heap.size, 0, none⟩ = some (.slice G.sa G.sl G.sc) ∧ w'.cell? ⟨w.heap.size, 1, none⟩ = some (.slice G.ca G.cl G.cc) ∧ w'.cell? ⟨b, off, none⟩ = some (.slice t.sa t.sl t.sc)) (by kernel_rfl) u1 (fun hHeld => ?_)
  refine held_take 0 (.agg #[.slice G.sa G.sl G.sc, .slice G.ca G.cl G.cc]) rfl (by kernel_rfl) (by kernel_rfl) (by kernel_rfl) (fun _ _ _ h => h) (by rfl) (by intro w' hS; go_simp) (by assumption) ?_
  try simp only [Act.put, List.setIfInBounds_toArray, List.set_cons_zero, List.set_cons_succ]
  refine held_call 1 (by kernel_rfl) rfl (by rfl) (fun K hK => ?_)
  go_simp
  refine (R1'.out _ t1'.out).mono ?_
  rintro e w2 ⟨rfl, hb⟩
  go_wp2_with fail
  refine hK.out _ _ (SK.out w2 (t1'.out.trans (hb.mono (Nat.le_refl _)))) (fun hHeld => ?_)
  try simp only [Act.put, List.setIfInBounds_toArray, List.set_cons_zero, List.set_cons_succ]
  refine held_take 2 (.bool false) rfl (by kernel_rfl) (by kernel_rfl) (by kernel_rfl) (fun _ _ _ h => h) (by rfl) (by intro w' hS; go_simp) (by assumption) ?_
  try simp only [Act.put, List.setIfInBounds_toArray, List.set_cons_zero, List.set_cons_succ]
  refine held_take 3 (.bool false) rfl (by kernel_rfl) (by kernel_rfl) (by kernel_rfl) (fun _ _ _ h => h) (by rfl) (by intro w' hS; go_simp) (by assumption) ?_
  try simp only [Act.put, List.setIfInBounds_toArray, List.set_cons_zero, List.set_cons_succ]
  refine held_take 4 (.pointer (some ⟨w.heap.size, 0, none⟩)) rfl (by kernel_rfl) (by kernel_rfl) (by kernel_rfl) (fun _ _ _ h => h) (by rfl) (by intro w' hS; go_simp) (by assumption) ?_
  try simp only [Act.put, List.setIfInBounds_toArray, List.set_cons_zero, List.set_cons_succ]
  refine held_take 5 (.slice G.sa G.sl G.sc) rfl (by kernel_rfl) (by kernel_rfl) (by kernel_rfl) (fun _ _ _ h => h) (by rfl) (by intro w' hS; go_simp) (by assumption) ?_
  try simp only [Act.put, List.setIfInBounds_toArray, List.set_cons_zero, List.set_cons_succ]
  refine held_take 6 (.slice (some ⟨b, off, none⟩) len cap) rfl (by kernel_rfl) (by kernel_rfl) (by kernel_rfl) (fun _ _ _ h => h) (by rfl) (by intro w' hS; go_simp) (by assumption) ?_
  try simp only [Act.put, List.setIfInBounds_toArray, List.set_cons_zero, List.set_cons_succ]
  refine held_take 7 (.pointer (some ⟨b, off, none⟩)) rfl (by kernel_rfl) (by kernel_rfl) (by kernel_rfl) (fun _ _ _ h => h) (by rfl) (by intro w' hS; go_simp) (by assumption) ?_
  try simp only [Act.put, List.setIfInBounds_toArray, List.set_cons_zero, List.set_cons_succ]
  refine held_take 8 (.pointer (some ⟨b, off, none⟩)) rfl (by kernel_rfl) (by kernel_rfl) (by kernel_rfl) (fun _ _ _ h => h) (by rfl) (by intro w' hS; go_simp) (by assumption) ?_
  try simp only [Act.put, List.setIfInBounds_toArray, List.set_cons_zero, List.set_cons_succ]
  refine held_take 9 (.slice t.sa t.sl t.sc) rfl (by kernel_rfl) (by kernel_rfl) (by kernel_rfl) (fun _ _ _ h => h) (by rfl) (by intro w' hS; go_simp) (by assumption) ?_
  try simp only [Act.put, List.setIfInBounds_toArray, List.set_cons_zero, List.set_cons_succ]
  refine held_call 10 (by kernel_rfl) rfl (by rfl) (fun K hK => ?_)
  go_simp
  refine (R2'.out w2 (t1'.out.trans (hb.mono (Nat.le_refl _)))).mono ?_
  rintro e w3 ⟨rfl, m, rfl⟩
  go_wp2_with fail
  refine hK.out _ _ (SK.out _ (below_drewN' (t1'.out.trans (hb.mono (Nat.le_refl _))) m)) (fun hHeld => ?_)
  try simp only [Act.put, List.setIfInBounds_toArray, List.set_cons_zero, List.set_cons_succ]
  refine held_take 11 (.bool false) rfl (by kernel_rfl) (by kernel_rfl) (by kernel_rfl) (fun _ _ _ h => h) (by rfl) (by intro w' hS; go_simp) (by assumption) ?_
  try simp only [Act.put, List.setIfInBounds_toArray, List.set_cons_zero, List.set_cons_succ]
  refine held_take 12 (.bool false) rfl (by kernel_rfl) (by kernel_rfl) (by kernel_rfl) (fun _ _ _ h => h) (by rfl) (by intro w' hS; go_simp) (by assumption) ?_
  try simp only [Act.put, List.setIfInBounds_toArray, List.set_cons_zero, List.set_cons_succ]
  refine wpAnyH_done (by kernel_rfl) ?_ _
  obtain ⟨w3, hw3⟩ : ∃ w3, w2.drewN m = w3 := ⟨_, rfl⟩
  have hb3 := below_drewN' (t1'.out.trans (hb.mono (Nat.le_refl _))) m
  have b3 := Lib.hid (b1.out.trans (hb3.mono b1.out.size))
  have J3 := Lib.hid (J.out.kept (hb1.trans (hb3.mono hb1.size)))
  have sz3 : w.heap.size < w3.heap.size := by have := n1.out; have := hb1.size; have := hb3.size; rw [hw3] at this; omega
  rw [hw3] at b3 J3 ⊢
  clear hHeld u1 t1' SK R1' R2' hw3 hb hb3 J hb1 b1 C1 F1
  have hmk := g_made len (by omega)
  go_upto_region 7 with (fail)
  obtain ⟨wM, hwM⟩ : ∃ wM, w3.alloc (.cells (madeCells #[nilS, nilS] (len * 2)) 30) = wM := ⟨_, rfl⟩
  have rM : Hid (wM.ownsRow w3.heap.size 30 2 (.slice (some ⟨w3.heap.size, 0, none⟩) len len) len (gpart [] len)) := Lib.hid (by rw [← hwM]; exact g_made_row w3 len (by omega))
  have zM : Hid (Below w3.heap.size w3 wM) := Lib.hid (by rw [← hwM]; exact (Below.refl _ _).alloc (Nat.le_refl _) _)
  have nM : Hid (wM.heap.size = w3.heap.size + 1) := Lib.hid (by rw [← hwM]; simp)
  rw [hwM]
  clear hwM hmk
  go_wp2_with fail
  go_loopw [43] (fun i wr => ∃ j : Nat, j ≤ len ∧ i = .int .i64 j ∧ Hid (∃ us : List TV, us.length = j ∧ (∀ u ∈ us, u.sl = G.sl ∧ u.ss = G.ss ∧ u.cl = G.cl ∧ u.cs = G.cs) ∧ wr.ownsRow w3.heap.size 30 2 (.slice (some ⟨w3.heap.size, 0, none⟩) len len) len (gpart us len) ∧ Many wr (w3.heap.size + 1) us ∧ w3.heap.size + 1 ≤ wr.heap.size) ∧ Hid (Below w3.heap.size w3 wr)) (fun i _ => len - (intOf i).toNat)
  case atStart => exact ⟨0, Nat.zero_le _, rfl, Lib.hid ⟨[], rfl, (fun u hu => (List.not_mem_nil hu).elim), rM.out, Many.nil _ _, by rw [nM.out]; exact Nat.le_refl _⟩, zM⟩
  case round =>
    obtain ⟨j, hj, rfl, hus, hbr⟩ := hrel
    have bw := Lib.hid (b3.out.trans (hbr.out.mono (Nat.le_of_lt sz3)))
    have Jr := Lib.hid (J3.out.below hbr.out sz3)
    by_cases hlt : j < len
    · obtain ⟨us, hl, hall, hrow, hmany, hsz⟩ := hus.out
      obtain ⟨j0, j1, -, -⟩ := Jr.out.see
      clear hus
      have hrow' := Lib.hid hrow
      have hmany' := Lib.hid hmany
      have hall' := Lib.hid hall
      clear hrow hmany hall
      go_wp2_with fail
      refine (D.out wr bw.out).mono ?_
      rintro e w4 ⟨v', rfl, hN⟩
      have hb4 : Below wr.heap.size wr w4 := by obtain ⟨_, _, _, _, -, -, -, -, hb⟩ := hN; exact hb
      obtain ⟨u, rfl, e1, e2, e3, e4, hmany4⟩ := hmany'.out.add hsz hN
      have hrow4 := row_kept hrow'.out hb4
      obtain ⟨q1, q2⟩ := gpart_next (ts := us) (n := len) (by omega)
      rw [hl] at q1 q2
      have k1 : w4.cell? ⟨w3.heap.size, j * 2, none⟩ = some nilS := (hrow4.cellAt (j * 2) (by omega)).trans q1
      have k2 : w4.cell? ⟨w3.heap.size, j * 2 + 1, none⟩ = some nilS := (hrow4.cellAt (j * 2 + 1) (by omega)).trans q2
      have k3 := hrow4.frozenAt (j * 2)
      have k4 := hrow4.frozenAt (j * 2 + 1)
      obtain ⟨o1, -⟩ := hrow4.stored (j * 2) (.slice u.sa u.sl u.sc)
      obtain ⟨o2, -⟩ := o1.stored (j * 2 + 1) (.slice u.ca u.cl u.cc)
      have hset := gpart_set (ts := us) (n := len) (by omega) u
      rw [hl] at hset
      rw [hset] at o2
      have P : Hid (∃ us' : List TV, us'.length = j + 1 ∧ (∀ u ∈ us', u.sl = G.sl ∧ u.ss = G.ss ∧ u.cl = G.cl ∧ u.cs = G.cs) ∧ ((w4.setCell ⟨w3.heap.size, j * 2, none⟩ (.slice u.sa u.sl u.sc)).setCell ⟨w3.heap.size, j * 2 + 1, none⟩ (.slice u.ca u.cl u.cc)).ownsRow w3.heap.size 30 2 (.slice (some ⟨w3.heap.size, 0, none⟩) len len) len (gpart us' len) ∧ Many ((w4.setCell ⟨w3.heap.size, j * 2, none⟩ (.slice u.sa u.sl u.sc)).setCell ⟨w3.heap.size, j * 2 + 1, none⟩ (.slice u.ca u.cl u.cc)) (w3.heap.size + 1) us' ∧ w3.heap.size + 1 ≤ ((w4.setCell ⟨w3.heap.size, j * 2, none⟩ (.slice u.sa u.sl u.sc)).setCell ⟨w3.heap.size, j * 2 + 1, none⟩ (.slice u.ca u.cl u.cc)).heap.size) := Lib.hid
        ⟨us ++ [u], by rw [List.length_append, hl]; rfl, fun x hx => by
          rcases List.mem_append.1 hx with hx | hx
          · exact hall'.out x hx
          · rw [List.mem_singleton] at hx; subst hx; exact ⟨e1, e2, e3, e4⟩, o2, (hmany4.far _ (Nat.lt_succ_self _)).far _ (Nat.lt_succ_self _), by simp; have := hb4.size; omega⟩
      have Q := Lib.hid (((hbr.out.trans (hb4.mono (by omega))).setCell (p := ⟨w3.heap.size, j * 2, none⟩) (Nat.le_refl _) (.slice u.sa u.sl u.sc)).setCell (p := ⟨w3.heap.size, j * 2 + 1, none⟩) (Nat.le_refl _) (.slice u.ca u.cl u.cc))
      clear hrow4 q1 q2 o1 o2 hset hmany4 hN e1 e2 e3 e4 hb4
      go_wp2_with fail
      go_roundw
      case rel => exact ⟨j + 1, by omega, by go_num, P, Q⟩
      case measure => (simp [intOf]; try omega)
    · obtain rfl : j = len := by omega
      rcases hkind.out with ⟨ek, -⟩ | ⟨ek, -⟩ | ⟨ek, -⟩
      · rw [ek] at hlenk
        obtain ⟨us, hl, hall, hrow, hmany, hsz⟩ := hus.out
        obtain rfl : j = 1 := by have := hlenk.out; omega
        rw [gpart_full hl] at hrow
        obtain ⟨v1, rfl⟩ := List.length_eq_one_iff.1 hl
        obtain ⟨a1, b1, c1, d1⟩ := hall v1 (by simp)
        have own1 := hmany.own v1 (by simp)
        obtain ⟨sa1, sl1, sc1, ss1, ca1, cl1, cc1, cs1⟩ := v1
        simp only at a1 b1 c1 d1 own1
        subst a1 b1 c1 d1
        obtain ⟨g1, cx1, hv1⟩ := Joins.ownsRow_form own1.2 hcl0
        simp only [Value.slice.injEq, true_and] at hv1
        obtain ⟨rfl, rfl⟩ := hv1
        obtain ⟨lo1, hi1⟩ := own1.2.lt g1 rfl
        have hap := hmany.apart
        have nd1 := nodup1 hap
        have ap11 : ∀ q, (Value.slice sa1 G.sl sc1).ownBlock = some q → q ≠ g1 := by
          intro q hq
          cases hs : sa1 with
          | none => rw [hs] at hq; cases hq
          | some p => rw [hs] at hq; cases hq; exact tblocks_apart nd1 hs rfl
        clear nd1
        have hap' := Lib.hid hap
        clear hap
        obtain ⟨y, hy⟩ : ∃ y, G.cl = y := ⟨_, rfl⟩
        have jg : wr.cell? ⟨w.heap.size, 1, none⟩ = some (.slice (some ⟨bg, og, none⟩) y G.cc) := by rw [← hy, ← eG'.out]; exact Jr.out.see.2.1
        have m1 : wr.cell? ⟨w3.heap.size, 1, none⟩ = some (.slice (some ⟨g1, 0, none⟩) y cc1) := by rw [← hy]; exact (hrow.cellAt 1 (by omega)).trans rfl
        have rr1 := Lib.hid (show wr.ownsRow (w3.heap.size + 1) 22 1 (.slice (some ⟨g1, 0, none⟩) y cc1) y ((mixR (bxL kind k t.cs ts G.cs) G.cs 0).map (Value.int .i64)) by rw [mixR_zero, ← hy]; exact own1.2)
        have rs1 := Lib.hid own1.1
        have hrow' := Lib.hid hrow
        clear hrow hmany hall hus own1
        rw [hy] at hlG hlT hcl0 HG HC hcl'
        go_wp2_with fail
        go_loopw [55] (fun i wl => ∃ j : Nat, j ≤ y ∧ i = .int .i64 j ∧ Hid (wl.ownsRow (w3.heap.size + 1) 22 1 (.slice (some ⟨g1, 0, none⟩) y cc1) y ((mixR (bxL kind k t.cs ts G.cs) G.cs j).map (Value.int .i64))) ∧ Hid (OnlyS (fun q => q = g1) wr wl)) (fun i _ => y - (intOf i).toNat)
        case atStart => exact ⟨0, Nat.zero_le _, rfl, rr1, Lib.hid (OnlyS.refl _ _)⟩
        case round =>
          obtain ⟨j, hj, rfl, hr1, hon⟩ := hrel
          have bl := Lib.hid (hon.out.below bw.out (by rintro k rfl; omega))
          have jl : wr.cell? ⟨w.heap.size, 1, none⟩ = some (.slice (some ⟨bg, og, none⟩) y G.cc) := by rw [World.cell?_of_block (w := _) (w' := wr) (a := ⟨w.heap.size, 1, none⟩) (hon.out.block w.heap.size (by show ¬ w.heap.size = g1; omega))]; exact jg
          have ml1 : wr.cell? ⟨w3.heap.size, 1, none⟩ = some (.slice (some ⟨g1, 0, none⟩) y cc1) := by rw [World.cell?_of_block (w := _) (w' := wr) (a := ⟨w3.heap.size, 1, none⟩) (hon.out.block w3.heap.size (by show ¬ w3.heap.size = g1; omega))]; exact m1
          by_cases hlt : j < y
          · have hgc := HG.out j hlt wr bl.out
            have CE := HC.out j hlt wr bl.out
            obtain ⟨x, hx⟩ : ∃ x, t.cs.getD j 0 = x := ⟨_, rfl⟩
            obtain ⟨u, hu⟩ : ∃ u, otherN ts j = u := ⟨_, rfl⟩
            obtain ⟨s, hs⟩ : ∃ s, G.cs.getD j 0 = s := ⟨_, rfl⟩
            obtain ⟨x1, x2⟩ := hfT.out.getD j
            obtain ⟨u1, u2⟩ := HB.out j
            obtain ⟨s1, s2⟩ := hfG.out.getD j
            rw [hx] at x1 x2 CE
            rw [hu] at u1 u2 CE
            rw [hs] at s1 s2 hgc
            have CE' := Lib.hid CE
            have M := Lib.hid (fun w => slope_any kind k x u s w hk.out.1 hk.out.2 x1 x2 u1 u2 s1 s2)
            have hm1 : (bxL kind k t.cs ts G.cs).getD j 0 = pslx kind k x u s := by rw [bxL_get (by rw [hlG.out]; exact hlt), hx, hu, hs]
            obtain ⟨p1, hp1⟩ : ∃ p1, pslx kind k x u s = p1 := ⟨_, rfl⟩
            obtain ⟨p2, hp2⟩ : ∃ p2, psly kind x s = p2 := ⟨_, rfl⟩
            rw [hp1, hp2] at M
            rw [hp1] at hm1
            have hc1 : wr.cell? ⟨g1, j, none⟩ = some (.int .i64 s) := by
              have e : wr.cell? ⟨g1, j, none⟩ = ((mixR (bxL kind k t.cs ts G.cs) G.cs j).map (Value.int .i64))[j]? := hr1.out.cellAt j (by omega)
              rw [List.getElem?_map, mixR_get (bxL_length ..) (by rw [hlG.out]; exact hlt), hs] at e
              exact e
            have hf1 := hr1.out.frozenAt j
            obtain ⟨o1, -⟩ := hr1.out.stored j (.int .i64 p1)
            rw [← hm1, ← List.map_set, mixR_set (bxL_length ..) (by rw [hlG.out]; exact hlt), hm1] at o1
            have on1 := Lib.hid (hon.out.setCell (g := g1) rfl j (.int .i64 p1))
            have o1' := Lib.hid o1
            clear o1 hm1 hp1 hp2 hx hu hs x1 x2 u1 u2 s1 s2 CE
            go_wp2_with fail
            refine CE'.out.mono ?_
            rintro e w5 ⟨rfl, rfl⟩
            go_wp2_with fail
            refine (M.out _).mono ?_
            rintro e w5 ⟨rfl, rfl⟩
            go_wp2_with fail
            go_roundw
            case rel => exact ⟨j + 1, by omega, by go_num, o1', on1⟩
            case measure => (simp [intOf]; try omega)
          · obtain rfl : j = y := by omega
            rw [mixR_all (by rw [bxL_length]; exact hlG.out) hlG.out] at hr1
            have P : OkG w G.sl G.ss G.cl (backR kind k t.cs ts G.cs) (.returned (.tuple #[.slice (some ⟨w3.heap.size, 0, none⟩) 1 1, .int .i64 0])) wr := by
              refine ⟨w3.heap.size, 1, [(⟨sa1, G.sl, sc1, G.ss, some ⟨g1, 0, none⟩, j, cc1, bxL kind k t.cs ts G.cs⟩ : TV)], rfl, ?_, rfl, ?_, Nat.le_of_lt sz3, ?_, ⟨?_, ?_⟩, bl.out⟩
              · unfold backR; rw [ek]; rfl
              · intro v hv; simp at hv; subst hv; exact ⟨rfl, rfl, hy.symm⟩
              · have := hon.out.row hrow'.out (fun q hq => by cases hq; show ¬ w3.heap.size = g1; omega)
                simp only [gcells, hy] at this ⊢
                exact this
              · intro v hv
                simp at hv
                subst hv
                exact ⟨hon.out.row rs1.out ap11, hr1.out⟩
              · exact hap'.out
            have P' := Lib.hid P
            clear P
            go_wp2_with fail
            go_ret2
            exact P'.out
      · rw [ek] at hlenk
        obtain ⟨us, hl, hall, hrow, hmany, hsz⟩ := hus.out
        obtain rfl : j = 2 := by have := hlenk.out; omega
        rw [gpart_full hl] at hrow
        obtain ⟨v1, v2, rfl⟩ : ∃ v1 v2, us = [v1, v2] := by
          match us, hl with
          | [x, y], _ => exact ⟨x, y, rfl⟩
        obtain ⟨a1, b1, c1, d1⟩ := hall v1 (by simp)
        have own1 := hmany.own v1 (by simp)
        obtain ⟨sa1, sl1, sc1, ss1, ca1, cl1, cc1, cs1⟩ := v1
        simp only at a1 b1 c1 d1 own1
        subst a1 b1 c1 d1
        obtain ⟨g1, cx1, hv1⟩ := Joins.ownsRow_form own1.2 hcl0
        simp only [Value.slice.injEq, true_and] at hv1
        obtain ⟨rfl, rfl⟩ := hv1
        obtain ⟨lo1, hi1⟩ := own1.2.lt g1 rfl
        obtain ⟨a2, b2, c2, d2⟩ := hall v2 (by simp)
        have own2 := hmany.own v2 (by simp)
        obtain ⟨sa2, sl2, sc2, ss2, ca2, cl2, cc2, cs2⟩ := v2
        simp only at a2 b2 c2 d2 own2
        subst a2 b2 c2 d2
        obtain ⟨g2, cx2, hv2⟩ := Joins.ownsRow_form own2.2 hcl0
        simp only [Value.slice.injEq, true_and] at hv2
        obtain ⟨rfl, rfl⟩ := hv2
        obtain ⟨lo2, hi2⟩ := own2.2.lt g2 rfl
        have hap := hmany.apart
        obtain ⟨nd1, nd2, crs⟩ := nodup2 hap
        have ap11 : ∀ q, (Value.slice sa1 G.sl sc1).ownBlock = some q → q ≠ g1 := by
          intro q hq
          cases hs : sa1 with
          | none => rw [hs] at hq; cases hq
          | some p => rw [hs] at hq; cases hq; exact tblocks_apart nd1 hs rfl
        have ap12 : ∀ q, (Value.slice sa1 G.sl sc1).ownBlock = some q → q ≠ g2 := by
          intro q hq
          cases hs : sa1 with
          | none => rw [hs] at hq; cases hq
          | some p => rw [hs] at hq; cases hq; exact crs _ (tblocks_mem.2 (.inl ⟨p, hs, rfl⟩)) _ (tblocks_mem.2 (.inr ⟨_, rfl, rfl⟩))
        have ap21 : ∀ q, (Value.slice sa2 G.sl sc2).ownBlock = some q → q ≠ g1 := by
          intro q hq
          cases hs : sa2 with
          | none => rw [hs] at hq; cases hq
          | some p => rw [hs] at hq; cases hq; exact (crs _ (tblocks_mem.2 (.inr ⟨_, rfl, rfl⟩)) _ (tblocks_mem.2 (.inl ⟨p, hs, rfl⟩))).symm
        have ap22 : ∀ q, (Value.slice sa2 G.sl sc2).ownBlock = some q → q ≠ g2 := by
          intro q hq
          cases hs : sa2 with
          | none => rw [hs] at hq; cases hq
          | some p => rw [hs] at hq; cases hq; exact tblocks_apart nd2 hs rfl
        have hg12 : g1 ≠ g2 := crs _ (tblocks_mem.2 (.inr ⟨_, rfl, rfl⟩)) _ (tblocks_mem.2 (.inr ⟨_, rfl, rfl⟩))
        clear crs nd2
        clear nd1
        have hap' := Lib.hid hap
        clear hap
        obtain ⟨y, hy⟩ : ∃ y, G.cl = y := ⟨_, rfl⟩
        have jg : wr.cell? ⟨w.heap.size, 1, none⟩ = some (.slice (some ⟨bg, og, none⟩) y G.cc) := by rw [← hy, ← eG'.out]; exact Jr.out.see.2.1
        have m1 : wr.cell? ⟨w3.heap.size, 1, none⟩ = some (.slice (some ⟨g1, 0, none⟩) y cc1) := by rw [← hy]; exact (hrow.cellAt 1 (by omega)).trans rfl
        have rr1 := Lib.hid (show wr.ownsRow (w3.heap.size + 1) 22 1 (.slice (some ⟨g1, 0, none⟩) y cc1) y ((mixR (bxL kind k t.cs ts G.cs) G.cs 0).map (Value.int .i64)) by rw [mixR_zero, ← hy]; exact own1.2)
        have rs1 := Lib.hid own1.1
        have m2 : wr.cell? ⟨w3.heap.size, 3, none⟩ = some (.slice (some ⟨g2, 0, none⟩) y cc2) := by rw [← hy]; exact (hrow.cellAt 3 (by omega)).trans rfl
        have rr2 := Lib.hid (show wr.ownsRow (w3.heap.size + 1) 22 1 (.slice (some ⟨g2, 0, none⟩) y cc2) y ((mixR (byL kind t.cs G.cs) G.cs 0).map (Value.int .i64)) by rw [mixR_zero, ← hy]; exact own2.2)
        have rs2 := Lib.hid own2.1
        have hrow' := Lib.hid hrow
        clear hrow hmany hall hus own1 own2
        rw [hy] at hlG hlT hcl0 HG HC hcl'
        go_wp2_with fail
        go_loopw [55] (fun i wl => ∃ j : Nat, j ≤ y ∧ i = .int .i64 j ∧ Hid (wl.ownsRow (w3.heap.size + 1) 22 1 (.slice (some ⟨g1, 0, none⟩) y cc1) y ((mixR (bxL kind k t.cs ts G.cs) G.cs j).map (Value.int .i64))) ∧ Hid (wl.ownsRow (w3.heap.size + 1) 22 1 (.slice (some ⟨g2, 0, none⟩) y cc2) y ((mixR (byL kind t.cs G.cs) G.cs j).map (Value.int .i64))) ∧ Hid (OnlyS (fun q => q = g1 ∨ q = g2) wr wl)) (fun i _ => y - (intOf i).toNat)
        case atStart => exact ⟨0, Nat.zero_le _, rfl, rr1, rr2, Lib.hid (OnlyS.refl _ _)⟩
        case round =>
          obtain ⟨j, hj, rfl, hr1, hr2, hon⟩ := hrel
          have bl := Lib.hid (hon.out.below bw.out (by rintro k (rfl | rfl) <;> omega))
          have jl : wr.cell? ⟨w.heap.size, 1, none⟩ = some (.slice (some ⟨bg, og, none⟩) y G.cc) := by rw [World.cell?_of_block (w := _) (w' := wr) (a := ⟨w.heap.size, 1, none⟩) (hon.out.block w.heap.size (by show ¬ (w.heap.size = g1 ∨ w.heap.size = g2); omega))]; exact jg
          have ml1 : wr.cell? ⟨w3.heap.size, 1, none⟩ = some (.slice (some ⟨g1, 0, none⟩) y cc1) := by rw [World.cell?_of_block (w := _) (w' := wr) (a := ⟨w3.heap.size, 1, none⟩) (hon.out.block w3.heap.size (by show ¬ (w3.heap.size = g1 ∨ w3.heap.size = g2); omega))]; exact m1
          have ml2 : wr.cell? ⟨w3.heap.size, 3, none⟩ = some (.slice (some ⟨g2, 0, none⟩) y cc2) := by rw [World.cell?_of_block (w := _) (w' := wr) (a := ⟨w3.heap.size, 3, none⟩) (hon.out.block w3.heap.size (by show ¬ (w3.heap.size = g1 ∨ w3.heap.size = g2); omega))]; exact m2
          by_cases hlt : j < y
          · have hgc := HG.out j hlt wr bl.out
            have CE := HC.out j hlt wr bl.out
            obtain ⟨x, hx⟩ : ∃ x, t.cs.getD j 0 = x := ⟨_, rfl⟩
            obtain ⟨u, hu⟩ : ∃ u, otherN ts j = u := ⟨_, rfl⟩
            obtain ⟨s, hs⟩ : ∃ s, G.cs.getD j 0 = s := ⟨_, rfl⟩
            obtain ⟨x1, x2⟩ := hfT.out.getD j
            obtain ⟨u1, u2⟩ := HB.out j
            obtain ⟨s1, s2⟩ := hfG.out.getD j
            rw [hx] at x1 x2 CE
            rw [hu] at u1 u2 CE
            rw [hs] at s1 s2 hgc
            have CE' := Lib.hid CE
            have M := Lib.hid (fun w => slope_any kind k x u s w hk.out.1 hk.out.2 x1 x2 u1 u2 s1 s2)
            have hm1 : (bxL kind k t.cs ts G.cs).getD j 0 = pslx kind k x u s := by rw [bxL_get (by rw [hlG.out]; exact hlt), hx, hu, hs]
            obtain ⟨p1, hp1⟩ : ∃ p1, pslx kind k x u s = p1 := ⟨_, rfl⟩
            obtain ⟨p2, hp2⟩ : ∃ p2, psly kind x s = p2 := ⟨_, rfl⟩
            have hm2 : (byL kind t.cs G.cs).getD j 0 = psly kind x s := by rw [byL_get (by rw [hlG.out]; exact hlt), hx, hs]
            rw [hp2] at hm2
            rw [hp1, hp2] at M
            rw [hp1] at hm1
            have hc1 : wr.cell? ⟨g1, j, none⟩ = some (.int .i64 s) := by
              have e : wr.cell? ⟨g1, j, none⟩ = ((mixR (bxL kind k t.cs ts G.cs) G.cs j).map (Value.int .i64))[j]? := hr1.out.cellAt j (by omega)
              rw [List.getElem?_map, mixR_get (bxL_length ..) (by rw [hlG.out]; exact hlt), hs] at e
              exact e
            have hf1 := hr1.out.frozenAt j
            have hc2 : wr.cell? ⟨g2, j, none⟩ = some (.int .i64 s) := by
              have e : wr.cell? ⟨g2, j, none⟩ = ((mixR (byL kind t.cs G.cs) G.cs j).map (Value.int .i64))[j]? := hr2.out.cellAt j (by omega)
              rw [List.getElem?_map, mixR_get (byL_length ..) (by rw [hlG.out]; exact hlt), hs] at e
              exact e
            have hf2 := hr2.out.frozenAt j
            obtain ⟨o1, -⟩ := hr1.out.stored j (.int .i64 p1)
            rw [← hm1, ← List.map_set, mixR_set (bxL_length ..) (by rw [hlG.out]; exact hlt), hm1] at o1
            have on1 := hon.out.setCell (g := g1) (Or.inl rfl) j (.int .i64 p1)
            have o2 := row_apart (p := ⟨g1, j, none⟩) (u := .int .i64 p1) hr2.out (fun q hq => by cases hq; exact hg12.symm)
            obtain ⟨wS, hwS⟩ : ∃ wS, wr.setCell ⟨g1, j, none⟩ (.int .i64 p1) = wS := ⟨_, rfl⟩
            rw [hwS] at o1 on1 o2
            have ms2 : wS.cell? ⟨w3.heap.size, 3, none⟩ = some (.slice (some ⟨g2, 0, none⟩) y cc2) := by rw [World.cell?_of_block (w := _) (w' := wS) (a := ⟨w3.heap.size, 3, none⟩) (on1.block w3.heap.size (by show ¬ (w3.heap.size = g1 ∨ w3.heap.size = g2); omega))]; exact m2
            have hcs2 : wS.cell? ⟨g2, j, none⟩ = some (.int .i64 s) := by
              have e : wS.cell? ⟨g2, j, none⟩ = ((mixR (byL kind t.cs G.cs) G.cs j).map (Value.int .i64))[j]? := o2.cellAt j (by omega)
              rw [List.getElem?_map, mixR_get (byL_length ..) (by rw [hlG.out]; exact hlt), hs] at e
              exact e
            have hfs2 := o2.frozenAt j
            obtain ⟨o3, -⟩ := o2.stored j (.int .i64 p2)
            rw [← hm2, ← List.map_set, mixR_set (byL_length ..) (by rw [hlG.out]; exact hlt), hm2] at o3
            have o1' := Lib.hid (row_apart (p := ⟨g2, j, none⟩) (u := .int .i64 p2) o1 (fun q hq => by cases hq; exact hg12))
            have o3' := Lib.hid o3
            have on2 := Lib.hid (on1.setCell (g := g2) (Or.inr rfl) j (.int .i64 p2))
            have hwS' := Lib.hid hwS
            clear o1 o2 o3 on1 hwS hm1 hm2 hp1 hp2 hx hu hs x1 x2 u1 u2 s1 s2 CE
            go_wp2_with fail
            refine CE'.out.mono ?_
            rintro e w5 ⟨rfl, rfl⟩
            go_wp2_with fail
            refine (M.out _).mono ?_
            rintro e w5 ⟨rfl, rfl⟩
            go_upto_region 18 with (fail)
            rw [hwS'.out]
            go_wp2_with fail
            go_roundw
            case rel => exact ⟨j + 1, by omega, by go_num, o1', o3', on2⟩
            case measure => (simp [intOf]; try omega)
          · obtain rfl : j = y := by omega
            rw [mixR_all (by rw [bxL_length]; exact hlG.out) hlG.out] at hr1
            rw [mixR_all (by rw [byL_length]; exact hlG.out) hlG.out] at hr2
            have P : OkG w G.sl G.ss G.cl (backR kind k t.cs ts G.cs) (.returned (.tuple #[.slice (some ⟨w3.heap.size, 0, none⟩) 2 2, .int .i64 0])) wr := by
              refine ⟨w3.heap.size, 2, [(⟨sa1, G.sl, sc1, G.ss, some ⟨g1, 0, none⟩, j, cc1, bxL kind k t.cs ts G.cs⟩ : TV), (⟨sa2, G.sl, sc2, G.ss, some ⟨g2, 0, none⟩, j, cc2, byL kind t.cs G.cs⟩ : TV)], rfl, ?_, rfl, ?_, Nat.le_of_lt sz3, ?_, ⟨?_, ?_⟩, bl.out⟩
              · unfold backR; rw [ek]; rfl
              · intro v hv; simp at hv; rcases hv with rfl | rfl <;> exact ⟨rfl, rfl, hy.symm⟩
              · have := hon.out.row hrow'.out (fun q hq => by cases hq; show ¬ (w3.heap.size = g1 ∨ w3.heap.size = g2); omega)
                simp only [gcells, hy] at this ⊢
                exact this
              · intro v hv
                simp at hv
                rcases hv with rfl | rfl
                · exact ⟨hon.out.row rs1.out (fun q hq h => h.elim (ap11 q hq) (ap12 q hq)), hr1.out⟩
                · exact ⟨hon.out.row rs2.out (fun q hq h => h.elim (ap21 q hq) (ap22 q hq)), hr2.out⟩
              · exact hap'.out
            have P' := Lib.hid P
            clear P
            go_wp2_with fail
            go_ret2
            exact P'.out
      · have := hlenk.out
        rw [ek] at this
        omega

end Go.Proofs.Ytilocmdanjekhaa
