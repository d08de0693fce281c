/-
  Contracts of package dense: isMatrix, isOutput, fit.
-/
import Derived.Test.YtlpecdfiagklpaaTV
import Derived.Test.YtlpecdfiagklpaaOnly
import Derived.Deep.DeepCutAuto
import Derived.Deep.CutBlock
import Derived.Deep.RegionWith
import Derived.Test.YtlpecdfiagklpaaSkip
import Derived.Test.YtlpecdfiagklpaaDenseMath
namespace Go.Proofs.Ytlpecdfiagklpaa
open Go.RowKit
set_option linter.unusedVariables false
set_option linter.unusedSimpArgs false

/-- Valid, and with two sides. -/
def matT (ss : List Int) (n : Nat) : Bool := rightT ss n && decide ((ss.length : Int) = 2)
/-- Valid, and with this side alone. -/
def outT (m : Int) (ss : List Int) (n : Nat) : Bool := rightT ss n && sameL ss [m]
/-- May they be together? -/
def fitT (ws : List Int) (wn : Nat) (bs : List Int) (bn : Nat) (xs : List Int) (xn : Nat) : Bool := matT ws wn && outT (ws.getD 0 0) bs bn && rightT xs xn && decide ((xn : Int) = ws.getD 1 0)

set_option maxHeartbeats 1000000 in
theorem ismat_any (t : TV) (w : World) (h : t.At w) :
    Calls Try.prog 38 #[.agg #[.slice t.sa t.sl t.sc, .slice t.ca t.cl t.cc]] w fun e w' => e = .returned (.bool (matT t.ss t.cl)) ∧ Below w.heap.size w w' := by
  obtain ⟨wB, hwB, J, z0, -⟩ := grid_box w (.slice t.sa t.sl t.sc) (.slice t.ca t.cl t.cc)
  have C := tright_any t.sa t.sl t.sc t.ss t.ca t.cl t.cc wB (h.1.kept z0.out) (by have := h.2.2.2; omega)
  have hl := h.1.1
  have E : Hid ((rightT t.ss t.cl && decide ((t.sl : Int) = 2)) = matT t.ss t.cl) := Lib.hid (by unfold matT; rw [hl])
  obtain ⟨x, hx⟩ : ∃ x, rightT t.ss t.cl = x := ⟨_, rfl⟩
  rw [hx] at C E
  clear h hx hl
  obtain ⟨j0, j1, -, -⟩ := J.out.see
  cases x
  · have C1 := Lib.hid C
    clear C
    go_enter Try.func38, Try.ntmps38
    go_wp2_with fail
    rw [hwB.out]
    refine C1.out.mono ?_
    rintro e w1 ⟨rfl, hb1⟩
    go_wp2_with fail
    go_ret
    exact ⟨ret_bool E.out, z0.out.trans (hb1.mono z0.out.size)⟩
  · have C1 := Lib.hid C
    have E' : Hid (((t.sl : Int) == 2) = matT t.ss t.cl) := Lib.hid (by rw [← E.out]; by_cases c : (t.sl : Int) = 2 <;> simp [c])
    clear C E
    go_enter Try.func38, Try.ntmps38
    go_wp2_with fail
    rw [hwB.out]
    refine C1.out.mono ?_
    rintro e w1 ⟨rfl, hb1⟩
    obtain ⟨k0, k1, -, -⟩ := (J.out.kept hb1).see
    go_wp2_with fail
    go_ret
    exact ⟨ret_bool E'.out, z0.out.trans (hb1.mono z0.out.size)⟩

set_option maxRecDepth 100000 in
set_option maxHeartbeats 2000000 in
theorem isout_any (W t : TV) (w : World) (hW : W.At w) (h : t.At w) (h0 : 0 < W.sl) :
    Calls Try.prog 33 #[.agg #[.slice W.sa W.sl W.sc, .slice W.ca W.cl W.cc], .agg #[.slice t.sa t.sl t.sc, .slice t.ca t.cl t.cc]] w fun e w' => e = .returned (.bool (outT (W.ss.getD 0 0) t.ss t.cl)) ∧ Below w.heap.size w w' := by
  obtain ⟨b, off, hba, hb0⟩ : ∃ b off, W.sa = some ⟨b, off, none⟩ ∧ w.cell? ⟨b, off, none⟩ = some (.int .i64 (W.ss.getD 0 0)) := by
    rcases hW.1.2.2.2 with h4 | ⟨b, off, ha, hc⟩
    · omega
    · exact ⟨b, off, ha, by have := hc 0 h0; simpa using this⟩
  have hfm := hW.1.2.2.1.getD 0
  obtain ⟨m, hm⟩ : ∃ m, W.ss.getD 0 0 = m := ⟨_, rfl⟩
  rw [hm] at hb0 hfm ⊢
  have hfm' : Hid (Fits [m]) := Lib.hid (by intro n hn; rw [List.mem_singleton] at hn; subst hn; exact hfm)
  rw [hba]
  obtain ⟨wA, hwA, J1, z1, n1⟩ := grid_box w (.slice (some ⟨b, off, none⟩) W.sl W.sc) (.slice W.ca W.cl W.cc)
  obtain ⟨wB, hwB, J2, z2, -⟩ := grid_box wA (.slice t.sa t.sl t.sc) (.slice t.ca t.cl t.cc)
  rw [n1.out] at J2
  have z := Lib.hid (z1.out.trans (z2.out.mono z1.out.size))
  have J1' := Lib.hid (J1.out.kept z2.out)
  have C := fun w1 (hb : Below wB.heap.size wB w1) => tright_any t.sa t.sl t.sc t.ss t.ca t.cl t.cc w1 ((h.1.kept z.out).kept hb) (by have := h.2.2.2; omega)
  have F0 := Lib.hid (fun w1 (hb : Below wB.heap.size wB w1) => cell_later hb (cell_later z.out hb0))
  have T := Lib.hid (fun w1 (hb : Below wB.heap.size wB w1) => (h.1.kept z.out).kept hb)
  have hp0 : ¬ W.sl = 0 := by omega
  have E : Hid ((rightT t.ss t.cl && sameL t.ss [m]) = outT m t.ss t.cl) := Lib.hid rfl
  obtain ⟨x, hx⟩ : ∃ x, rightT t.ss t.cl = x := ⟨_, rfl⟩
  rw [hx] at E
  simp only [hx] at C
  clear h hx hm hfm hba hW J1 h0 hb0
  cases x
  · have C1 := Lib.hid C
    clear C
    go_enter Try.func33, Try.ntmps33
    go_upto_region 1 with (fail)
    rw [hwA.out, hwB.out]
    have SK := Lib.hid (fun w' (hb : Below wB.heap.size wB w') => (show w'.cell? ⟨w.heap.size + 1, 0, none⟩ = some (.slice t.sa t.sl t.sc) ∧ w'.cell? ⟨w.heap.size + 1, 1, none⟩ = some (.slice t.ca t.cl t.cc) from ⟨(J2.out.kept hb).see.1, (J2.out.kept hb).see.2.1⟩))
    have t1 := Lib.hid (show Below wB.heap.size wB wB.drew from (Below.refl _ _).drew)
    refine wp_region_held_drew (S := fun w' => w'.cell? ⟨w.heap.size + 1, 0, none⟩ = some (.slice t.sa t.sl t.sc) ∧ w'.cell? ⟨w.heap.size + 1, 1, none⟩ = some (.slice t.ca t.cl t.cc)) (by kernel_rfl) (SK.out _ t1.out) (fun hHeld => ?_)
    refine held_take 0 (.agg #[.slice t.sa t.sl t.sc, .slice t.ca t.cl t.cc]) rfl (by kernel_rfl) (by kernel_rfl) (by kernel_rfl) (fun _ _ _ h => h) (by rfl) (by intro w' hS; go_simp) (by assumption) ?_
    try simp only [Act.put, List.setIfInBounds_toArray, List.set_cons_zero, List.set_cons_succ]
    refine held_call 1 (by kernel_rfl) rfl (by rfl) (fun K hK => ?_)
    go_simp
    refine (C1.out wB.drew t1.out).mono ?_
    rintro e wq1 ⟨rfl, hb⟩
    have bq1 := Lib.hid (t1.out.trans ((hb).mono t1.out.size))
    go_wp2_with fail
    refine hK.out _ _ (SK.out _ bq1.out) (fun hHeld => ?_)
    try simp only [Act.put, List.setIfInBounds_toArray, List.set_cons_zero, List.set_cons_succ]
    refine held_take 2 (.bool false) rfl (by kernel_rfl) (by kernel_rfl) (by kernel_rfl) (fun _ _ _ h => h) (by rfl) (by intro w' hS; go_simp) (by assumption) ?_
    try simp only [Act.put, List.setIfInBounds_toArray, List.set_cons_zero, List.set_cons_succ]
    refine held_skip 3 rfl (by kernel_rfl) (by kernel_rfl) (by kernel_rfl) (fun _ _ _ h => h) (by rfl) (by assumption) ?_
    try simp only [Act.put, List.setIfInBounds_toArray, List.set_cons_zero, List.set_cons_succ]
    refine held_skip 4 rfl (by kernel_rfl) (by kernel_rfl) (by kernel_rfl) (fun _ _ _ h => h) (by rfl) (by assumption) ?_
    try simp only [Act.put, List.setIfInBounds_toArray, List.set_cons_zero, List.set_cons_succ]
    refine held_skip 5 rfl (by kernel_rfl) (by kernel_rfl) (by kernel_rfl) (fun _ _ _ h => h) (by rfl) (by assumption) ?_
    try simp only [Act.put, List.setIfInBounds_toArray, List.set_cons_zero, List.set_cons_succ]
    refine held_skip 6 rfl (by kernel_rfl) (by kernel_rfl) (by kernel_rfl) (fun _ _ _ h => h) (by rfl) (by assumption) ?_
    try simp only [Act.put, List.setIfInBounds_toArray, List.set_cons_zero, List.set_cons_succ]
    refine held_skip 7 rfl (by kernel_rfl) (by kernel_rfl) (by kernel_rfl) (fun _ _ _ h => h) (by rfl) (by assumption) ?_
    try simp only [Act.put, List.setIfInBounds_toArray, List.set_cons_zero, List.set_cons_succ]
    refine held_skip 8 rfl (by kernel_rfl) (by kernel_rfl) (by kernel_rfl) (fun _ _ _ h => h) (by rfl) (by assumption) ?_
    try simp only [Act.put, List.setIfInBounds_toArray, List.set_cons_zero, List.set_cons_succ]
    refine held_left 9 (by kernel_rfl) rfl (by rfl) (by assumption) ?_
    try simp only [Act.put, List.setIfInBounds_toArray, List.set_cons_zero, List.set_cons_succ]
    refine held_left 10 (by kernel_rfl) rfl (by rfl) (by assumption) ?_
    try simp only [Act.put, List.setIfInBounds_toArray, List.set_cons_zero, List.set_cons_succ]
    refine held_take 11 (.bool false) rfl (by kernel_rfl) (by kernel_rfl) (by kernel_rfl) (fun _ _ _ h => h) (by rfl) (by intro w' hS; go_simp) (by assumption) ?_
    try simp only [Act.put, List.setIfInBounds_toArray, List.set_cons_zero, List.set_cons_succ]
    refine held_take 12 (.bool false) rfl (by kernel_rfl) (by kernel_rfl) (by kernel_rfl) (fun _ _ _ h => h) (by rfl) (by intro w' hS; go_simp) (by assumption) ?_
    try simp only [Act.put, List.setIfInBounds_toArray, List.set_cons_zero, List.set_cons_succ]
    refine wpAnyH_done (by kernel_rfl) ?_ _
    go_wp2_with fail
    go_ret
    exact ⟨ret_bool E.out, z.out.trans (bq1.out.mono z.out.size)⟩
  · have C1 := Lib.hid C
    have D := fun w1 (hb : Below wB.heap.size wB w1) (p : Addr) (hp : IntsAt w1 (some p) 1 [m]) => equal_any t.sa t.sl t.sc t.ss (some p) 1 1 [m] w1 (T.out w1 hb) hp
    obtain ⟨y, hy⟩ : ∃ y, sameL t.ss [m] = y := ⟨_, rfl⟩
    rw [hy] at E
    simp only [hy] at D
    have D1 := Lib.hid D
    clear C D hy
    go_enter Try.func33, Try.ntmps33
    go_upto_region 1 with (fail)
    rw [hwA.out, hwB.out]
    have SK := Lib.hid (fun w' (hb : Below wB.heap.size wB w') => (show w'.cell? ⟨w.heap.size + 1, 0, none⟩ = some (.slice t.sa t.sl t.sc) ∧ w'.cell? ⟨w.heap.size + 1, 1, none⟩ = some (.slice t.ca t.cl t.cc) ∧ w'.cell? ⟨w.heap.size, 0, none⟩ = some (.slice (some ⟨b, off, none⟩) W.sl W.sc) ∧ w'.cell? ⟨b, off, none⟩ = some (.int .i64 m) from ⟨(J2.out.kept hb).see.1, (J2.out.kept hb).see.2.1, (J1'.out.kept hb).see.1, F0.out w' hb⟩))
    have t1 := Lib.hid (show Below wB.heap.size wB wB.drew from (Below.refl _ _).drew)
    refine wp_region_held_drew (S := fun w' => w'.cell? ⟨w.heap.size + 1, 0, none⟩ = some (.slice t.sa t.sl t.sc) ∧ w'.cell? ⟨w.heap.size + 1, 1, none⟩ = some (.slice t.ca t.cl t.cc) ∧ w'.cell? ⟨w.heap.size, 0, none⟩ = some (.slice (some ⟨b, off, none⟩) W.sl W.sc) ∧ w'.cell? ⟨b, off, none⟩ = some (.int .i64 m)) (by kernel_rfl) (SK.out _ t1.out) (fun hHeld => ?_)
    refine held_take 0 (.agg #[.slice t.sa t.sl t.sc, .slice t.ca t.cl t.cc]) rfl (by kernel_rfl) (by kernel_rfl) (by kernel_rfl) (fun _ _ _ h => h) (by rfl) (by intro w' hS; go_simp) (by assumption) ?_
    try simp only [Act.put, List.setIfInBounds_toArray, List.set_cons_zero, List.set_cons_succ]
    refine held_call 1 (by kernel_rfl) rfl (by rfl) (fun K hK => ?_)
    go_simp
    refine (C1.out wB.drew t1.out).mono ?_
    rintro e wq1 ⟨rfl, hb⟩
    have bq1 := Lib.hid (t1.out.trans ((hb).mono t1.out.size))
    go_wp2_with fail
    refine hK.out _ _ (SK.out _ bq1.out) (fun hHeld => ?_)
    try simp only [Act.put, List.setIfInBounds_toArray, List.set_cons_zero, List.set_cons_succ]
    refine held_take 2 (.bool true) rfl (by kernel_rfl) (by kernel_rfl) (by kernel_rfl) (fun _ _ _ h => h) (by rfl) (by intro w' hS; go_simp) (by assumption) ?_
    try simp only [Act.put, List.setIfInBounds_toArray, List.set_cons_zero, List.set_cons_succ]
    refine held_take 3 (.pointer (some ⟨w.heap.size + 1, 0, none⟩)) rfl (by kernel_rfl) (by kernel_rfl) (by kernel_rfl) (fun _ _ _ h => h) (by rfl) (by intro w' hS; go_simp) (by assumption) ?_
    try simp only [Act.put, List.setIfInBounds_toArray, List.set_cons_zero, List.set_cons_succ]
    refine held_take 4 (.slice t.sa t.sl t.sc) rfl (by kernel_rfl) (by kernel_rfl) (by kernel_rfl) (fun _ _ _ h => h) (by rfl) (by intro w' hS; go_simp) (by assumption) ?_
    try simp only [Act.put, List.setIfInBounds_toArray, List.set_cons_zero, List.set_cons_succ]
    refine held_take 5 (.pointer (some ⟨w.heap.size, 0, none⟩)) rfl (by kernel_rfl) (by kernel_rfl) (by kernel_rfl) (fun _ _ _ h => h) (by rfl) (by intro w' hS; go_simp) (by assumption) ?_
    try simp only [Act.put, List.setIfInBounds_toArray, List.set_cons_zero, List.set_cons_succ]
    refine held_take 6 (.slice (some ⟨b, off, none⟩) W.sl W.sc) rfl (by kernel_rfl) (by kernel_rfl) (by kernel_rfl) (fun _ _ _ h => h) (by rfl) (by intro w' hS; go_simp) (by assumption) ?_
    try simp only [Act.put, List.setIfInBounds_toArray, List.set_cons_zero, List.set_cons_succ]
    refine held_take 7 (.pointer (some ⟨b, off, none⟩)) rfl (by kernel_rfl) (by kernel_rfl) (by kernel_rfl) (fun _ _ _ h => h) (by rfl) (by intro w' hS; go_simp) (by assumption) ?_
    try simp only [Act.put, List.setIfInBounds_toArray, List.set_cons_zero, List.set_cons_succ]
    refine held_take 8 (.int .i64 m) rfl (by kernel_rfl) (by kernel_rfl) (by kernel_rfl) (fun _ _ _ h => h) (by rfl) (by intro w' hS; go_simp) (by assumption) ?_
    try simp only [Act.put, List.setIfInBounds_toArray, List.set_cons_zero, List.set_cons_succ]
    refine held_call 9 (by kernel_rfl) rfl (by rfl) (fun K hK => ?_)
    go_simp
    have hone := Lib.hid (IntsAt.made wq1 3 [m] 1 rfl (by omega) hfm'.out)
    have hb : Below wq1.heap.size wq1 (wq1.alloc (.cells ([m].map (Value.int .i64)).toArray 3)) := (Below.refl _ _).alloc (Nat.le_refl _) _
    simp only [List.map_cons, List.map_nil] at hone hb
    obtain ⟨wq2, hnew⟩ : ∃ wn, wq1.alloc (.cells [Value.int .i64 m].toArray 3) = wn := ⟨_, rfl⟩
    rw [hnew] at hone hb ⊢
    clear hnew
    have bq2 := Lib.hid (bq1.out.trans (hb.mono bq1.out.size))
    refine hK.out _ _ (SK.out _ bq2.out) (fun hHeld => ?_)
    try simp only [Act.put, List.setIfInBounds_toArray, List.set_cons_zero, List.set_cons_succ]
    refine held_call 10 (by kernel_rfl) rfl (by rfl) (fun K hK => ?_)
    go_simp
    refine (D1.out wq2 bq2.out _ hone.out).mono ?_
    rintro e _ ⟨rfl, nq, rfl⟩
    have bq3 := Lib.hid (bq2.out.trans ((below_drewN' (Below.refl _ _) nq).mono bq2.out.size))
    go_wp2_with fail
    refine hK.out _ _ (SK.out _ bq3.out) (fun hHeld => ?_)
    try simp only [Act.put, List.setIfInBounds_toArray, List.set_cons_zero, List.set_cons_succ]
    refine held_take 11 (.bool y) rfl (by kernel_rfl) (by kernel_rfl) (by kernel_rfl) (fun _ _ _ h => h) (by rfl) (by intro w' hS; go_simp) (by assumption) ?_
    try simp only [Act.put, List.setIfInBounds_toArray, List.set_cons_zero, List.set_cons_succ]
    refine held_take 12 (.bool y) rfl (by kernel_rfl) (by kernel_rfl) (by kernel_rfl) (fun _ _ _ h => h) (by rfl) (by intro w' hS; go_simp) (by assumption) ?_
    try simp only [Act.put, List.setIfInBounds_toArray, List.set_cons_zero, List.set_cons_succ]
    refine wpAnyH_done (by kernel_rfl) ?_ _
    go_wp2_with fail
    go_ret
    exact ⟨ret_bool E.out, z.out.trans (bq3.out.mono z.out.size)⟩

theorem fitT_1 {ws bs xs : List Int} {wn bn xn : Nat} (h : matT ws wn = false) : false = fitT ws wn bs bn xs xn := by simp [fitT, h]
theorem fitT_2 {ws bs xs : List Int} {wn bn xn : Nat} (h : outT (ws.getD 0 0) bs bn = false) : false = fitT ws wn bs bn xs xn := by unfold fitT; rw [h]; simp
theorem fitT_3 {ws bs xs : List Int} {wn bn xn : Nat} (h : rightT xs xn = false) : false = fitT ws wn bs bn xs xn := by unfold fitT; rw [h]; simp
theorem fitT_4 {ws bs xs : List Int} {wn bn xn : Nat} (h1 : matT ws wn = true) (h2 : outT (ws.getD 0 0) bs bn = true) (h3 : rightT xs xn = true) : ((xn : Int) == ws.getD 1 0) = fitT ws wn bs bn xs xn := by
  unfold fitT
  rw [h1, h2, h3]
  generalize ws.getD 1 0 = v
  by_cases c : (xn : Int) = v <;> simp [c]
theorem matT_len {t : TV} {w : World} (h : t.At w) (hm : matT t.ss t.cl = true) : t.sl = 2 := by
  have := h.1.1
  unfold matT at hm
  simp at hm
  omega

set_option maxRecDepth 100000 in
set_option maxHeartbeats 4000000 in
theorem fit_any (W B x : TV) (w : World) (hW : W.At w) (hB : B.At w) (hx : x.At w) :
    Calls Try.prog 27 #[.agg #[.slice W.sa W.sl W.sc, .slice W.ca W.cl W.cc], .agg #[.slice B.sa B.sl B.sc, .slice B.ca B.cl B.cc], .agg #[.slice x.sa x.sl x.sc, .slice x.ca x.cl x.cc]] w fun e w' => e = .returned (.bool (fitT W.ss W.cl B.ss B.cl x.ss x.cl)) ∧ Below w.heap.size w w' := by
  have C1 := fun w1 (hb : Below w.heap.size w w1) => ismat_any W w1 (hW.kept hb)
  cases m : matT W.ss W.cl
  · have E := Lib.hid (fitT_1 (bs := B.ss) (bn := B.cl) (xs := x.ss) (xn := x.cl) m)
    simp only [m] at C1
    clear m hW hB hx
    obtain ⟨wA, hwA, J1, z1, n1⟩ := grid_box w (.slice W.sa W.sl W.sc) (.slice W.ca W.cl W.cc)
    obtain ⟨wB, hwB, J2, z2, n2⟩ := grid_box wA (.slice B.sa B.sl B.sc) (.slice B.ca B.cl B.cc)
    obtain ⟨wC, hwC, J3, z3, -⟩ := grid_box wB (.slice x.sa x.sl x.sc) (.slice x.ca x.cl x.cc)
    rw [n1.out] at J2
    rw [n2.out, n1.out] at J3
    have z12 := z1.out.trans (z2.out.mono z1.out.size)
    have z := Lib.hid (z12.trans (z3.out.mono z12.size))
    have J1' := Lib.hid ((J1.out.kept z2.out).kept z3.out)
    have J2' := Lib.hid (J2.out.kept z3.out)
    clear z12 J1 J2
    replace C1 := Lib.hid (fun w1 (hb : Below wC.heap.size wC w1) => C1 w1 (z.out.trans (hb.mono z.out.size)))
    go_enter Try.func27, Try.ntmps27
    go_upto_region 1 with (fail)
    rw [hwA.out, hwB.out, hwC.out]
    have SK := Lib.hid (fun w' (hb : Below wC.heap.size wC w') => (show w'.cell? ⟨w.heap.size, 0, none⟩ = some (.slice W.sa W.sl W.sc) ∧ w'.cell? ⟨w.heap.size, 1, none⟩ = some (.slice W.ca W.cl W.cc) from ⟨(J1'.out.kept hb).see.1, (J1'.out.kept hb).see.2.1⟩))
    have t1 := Lib.hid (show Below wC.heap.size wC wC.drew from (Below.refl _ _).drew)
    refine wp_region_held_drew (S := fun w' => w'.cell? ⟨w.heap.size, 0, none⟩ = some (.slice W.sa W.sl W.sc) ∧ w'.cell? ⟨w.heap.size, 1, none⟩ = some (.slice W.ca W.cl W.cc)) (by kernel_rfl) (SK.out _ t1.out) (fun hHeld => ?_)
    refine held_take 0 (.agg #[.slice W.sa W.sl W.sc, .slice W.ca W.cl W.cc]) rfl (by kernel_rfl) (by kernel_rfl) (by kernel_rfl) (fun _ _ _ h => h) (by rfl) (by intro w' hS; go_simp) (by assumption) ?_
    try simp only [Act.put, List.setIfInBounds_toArray, List.set_cons_zero, List.set_cons_succ]
    refine held_call 1 (by kernel_rfl) rfl (by rfl) (fun K hK => ?_)
    go_simp
    refine (C1.out wC.drew t1.out).mono ?_
    rintro e wq1 ⟨rfl, hb⟩
    have bq1 := Lib.hid (t1.out.trans ((hb).mono t1.out.size))
    go_wp2_with fail
    refine hK.out _ _ (SK.out _ bq1.out) (fun hHeld => ?_)
    try simp only [Act.put, List.setIfInBounds_toArray, List.set_cons_zero, List.set_cons_succ]
    refine held_take 2 (.bool false) rfl (by kernel_rfl) (by kernel_rfl) (by kernel_rfl) (fun _ _ _ h => h) (by rfl) (by intro w' hS; go_simp) (by assumption) ?_
    try simp only [Act.put, List.setIfInBounds_toArray, List.set_cons_zero, List.set_cons_succ]
    refine held_skip 3 rfl (by kernel_rfl) (by kernel_rfl) (by kernel_rfl) (fun _ _ _ h => h) (by rfl) (by assumption) ?_
    try simp only [Act.put, List.setIfInBounds_toArray, List.set_cons_zero, List.set_cons_succ]
    refine held_skip 4 rfl (by kernel_rfl) (by kernel_rfl) (by kernel_rfl) (fun _ _ _ h => h) (by rfl) (by assumption) ?_
    try simp only [Act.put, List.setIfInBounds_toArray, List.set_cons_zero, List.set_cons_succ]
    refine held_left 5 (by kernel_rfl) rfl (by rfl) (by assumption) ?_
    try simp only [Act.put, List.setIfInBounds_toArray, List.set_cons_zero, List.set_cons_succ]
    refine held_take 6 (.bool false) rfl (by kernel_rfl) (by kernel_rfl) (by kernel_rfl) (fun _ _ _ h => h) (by rfl) (by intro w' hS; go_simp) (by assumption) ?_
    try simp only [Act.put, List.setIfInBounds_toArray, List.set_cons_zero, List.set_cons_succ]
    refine held_take 7 (.bool false) rfl (by kernel_rfl) (by kernel_rfl) (by kernel_rfl) (fun _ _ _ h => h) (by rfl) (by intro w' hS; go_simp) (by assumption) ?_
    try simp only [Act.put, List.setIfInBounds_toArray, List.set_cons_zero, List.set_cons_succ]
    refine held_skip 8 rfl (by kernel_rfl) (by kernel_rfl) (by kernel_rfl) (fun _ _ _ h => h) (by rfl) (by assumption) ?_
    try simp only [Act.put, List.setIfInBounds_toArray, List.set_cons_zero, List.set_cons_succ]
    refine held_left 9 (by kernel_rfl) rfl (by rfl) (by assumption) ?_
    try simp only [Act.put, List.setIfInBounds_toArray, List.set_cons_zero, List.set_cons_succ]
    refine held_take 10 (.bool false) rfl (by kernel_rfl) (by kernel_rfl) (by kernel_rfl) (fun _ _ _ h => h) (by rfl) (by intro w' hS; go_simp) (by assumption) ?_
    try simp only [Act.put, List.setIfInBounds_toArray, List.set_cons_zero, List.set_cons_succ]
    refine held_take 11 (.bool false) rfl (by kernel_rfl) (by kernel_rfl) (by kernel_rfl) (fun _ _ _ h => h) (by rfl) (by intro w' hS; go_simp) (by assumption) ?_
    try simp only [Act.put, List.setIfInBounds_toArray, List.set_cons_zero, List.set_cons_succ]
    refine held_skip 12 rfl (by kernel_rfl) (by kernel_rfl) (by kernel_rfl) (fun _ _ _ h => h) (by rfl) (by assumption) ?_
    try simp only [Act.put, List.setIfInBounds_toArray, List.set_cons_zero, List.set_cons_succ]
    refine held_skip 13 rfl (by kernel_rfl) (by kernel_rfl) (by kernel_rfl) (fun _ _ _ h => h) (by rfl) (by assumption) ?_
    try simp only [Act.put, List.setIfInBounds_toArray, List.set_cons_zero, List.set_cons_succ]
    refine held_skip 14 rfl (by kernel_rfl) (by kernel_rfl) (by kernel_rfl) (fun _ _ _ h => h) (by rfl) (by assumption) ?_
    try simp only [Act.put, List.setIfInBounds_toArray, List.set_cons_zero, List.set_cons_succ]
    refine held_skip 15 rfl (by kernel_rfl) (by kernel_rfl) (by kernel_rfl) (fun _ _ _ h => h) (by rfl) (by assumption) ?_
    try simp only [Act.put, List.setIfInBounds_toArray, List.set_cons_zero, List.set_cons_succ]
    refine held_skip 16 rfl (by kernel_rfl) (by kernel_rfl) (by kernel_rfl) (fun _ _ _ h => h) (by rfl) (by assumption) ?_
    try simp only [Act.put, List.setIfInBounds_toArray, List.set_cons_zero, List.set_cons_succ]
    refine held_skip 17 rfl (by kernel_rfl) (by kernel_rfl) (by kernel_rfl) (fun _ _ _ h => h) (by rfl) (by assumption) ?_
    try simp only [Act.put, List.setIfInBounds_toArray, List.set_cons_zero, List.set_cons_succ]
    refine held_skip 18 rfl (by kernel_rfl) (by kernel_rfl) (by kernel_rfl) (fun _ _ _ h => h) (by rfl) (by assumption) ?_
    try simp only [Act.put, List.setIfInBounds_toArray, List.set_cons_zero, List.set_cons_succ]
    refine held_skip 19 rfl (by kernel_rfl) (by kernel_rfl) (by kernel_rfl) (fun _ _ _ h => h) (by rfl) (by assumption) ?_
    try simp only [Act.put, List.setIfInBounds_toArray, List.set_cons_zero, List.set_cons_succ]
    refine held_take 20 (.bool false) rfl (by kernel_rfl) (by kernel_rfl) (by kernel_rfl) (fun _ _ _ h => h) (by rfl) (by intro w' hS; go_simp) (by assumption) ?_
    try simp only [Act.put, List.setIfInBounds_toArray, List.set_cons_zero, List.set_cons_succ]
    refine held_take 21 (.bool false) rfl (by kernel_rfl) (by kernel_rfl) (by kernel_rfl) (fun _ _ _ h => h) (by rfl) (by intro w' hS; go_simp) (by assumption) ?_
    try simp only [Act.put, List.setIfInBounds_toArray, List.set_cons_zero, List.set_cons_succ]
    refine wpAnyH_done (by kernel_rfl) ?_ _
    go_wp2_with fail
    go_ret
    exact ⟨ret_bool E.out, z.out.trans (bq1.out.mono z.out.size)⟩
  have hs2 := matT_len hW m
  have C2 := fun w1 (hb : Below w.heap.size w w1) => isout_any W B w1 (hW.kept hb) (hB.kept hb) (by omega)
  have C3 := fun w1 (hb : Below w.heap.size w w1) => tright_any x.sa x.sl x.sc x.ss x.ca x.cl x.cc w1 (hx.1.kept hb) (by have := hx.2.2.2; omega)
  obtain ⟨b, off, hba, hb1⟩ : ∃ b off, W.sa = some ⟨b, off, none⟩ ∧ w.cell? ⟨b, off + 1, none⟩ = some (.int .i64 (W.ss.getD 1 0)) := by
    rcases hW.1.2.2.2 with h4 | ⟨b, off, ha, hc⟩
    · omega
    · exact ⟨b, off, ha, hc 1 (by omega)⟩
  have F1 := fun w1 (hb : Below w.heap.size w w1) => cell_later hb hb1
  simp only [m, hba, hs2] at C1
  simp only [hba, hs2] at C2
  rw [hba, hs2]
  have E2 := Lib.hid (fun h => fitT_2 (ws := W.ss) (wn := W.cl) (bs := B.ss) (bn := B.cl) (xs := x.ss) (xn := x.cl) h)
  have E3 := Lib.hid (fun h => fitT_3 (ws := W.ss) (wn := W.cl) (bs := B.ss) (bn := B.cl) (xs := x.ss) (xn := x.cl) h)
  have E4 := Lib.hid (fun h h' => fitT_4 (bs := B.ss) (bn := B.cl) (xs := x.ss) (xn := x.cl) m h h')
  obtain ⟨n, hn⟩ : ∃ n, W.ss.getD 1 0 = n := ⟨_, rfl⟩
  rw [hn] at E4
  simp only [hn] at F1
  clear hn hb1 hba hs2 hW hB hx
  obtain ⟨wA, hwA, J1, z1, n1⟩ := grid_box w (.slice (some ⟨b, off, none⟩) 2 W.sc) (.slice W.ca W.cl W.cc)
  obtain ⟨wB, hwB, J2, z2, n2⟩ := grid_box wA (.slice B.sa B.sl B.sc) (.slice B.ca B.cl B.cc)
  obtain ⟨wC, hwC, J3, z3, -⟩ := grid_box wB (.slice x.sa x.sl x.sc) (.slice x.ca x.cl x.cc)
  rw [n1.out] at J2
  rw [n2.out, n1.out] at J3
  have z12 := z1.out.trans (z2.out.mono z1.out.size)
  have z := Lib.hid (z12.trans (z3.out.mono z12.size))
  have J1' := Lib.hid ((J1.out.kept z2.out).kept z3.out)
  have J2' := Lib.hid (J2.out.kept z3.out)
  clear z12 J1 J2
  replace C1 := Lib.hid (fun w1 (hb : Below wC.heap.size wC w1) => C1 w1 (z.out.trans (hb.mono z.out.size)))
  replace C2 := fun w1 (hb : Below wC.heap.size wC w1) => C2 w1 (z.out.trans (hb.mono z.out.size))
  replace C3 := fun w1 (hb : Below wC.heap.size wC w1) => C3 w1 (z.out.trans (hb.mono z.out.size))
  replace F1 := Lib.hid (fun w1 (hb : Below wC.heap.size wC w1) => F1 w1 (z.out.trans (hb.mono z.out.size)))
  cases p : outT (W.ss.getD 0 0) B.ss B.cl
  · have E := Lib.hid (E2.out p)
    simp only [p] at C2
    replace C2 := Lib.hid C2
    clear p m C3 F1 E2 E3 E4
    go_enter Try.func27, Try.ntmps27
    go_upto_region 1 with (fail)
    rw [hwA.out, hwB.out, hwC.out]
    have SK := Lib.hid (fun w' (hb : Below wC.heap.size wC w') => (show w'.cell? ⟨w.heap.size, 0, none⟩ = some (.slice (some ⟨b, off, none⟩) 2 W.sc) ∧ w'.cell? ⟨w.heap.size, 1, none⟩ = some (.slice W.ca W.cl W.cc) ∧ w'.cell? ⟨w.heap.size + 1, 0, none⟩ = some (.slice B.sa B.sl B.sc) ∧ w'.cell? ⟨w.heap.size + 1, 1, none⟩ = some (.slice B.ca B.cl B.cc) from ⟨(J1'.out.kept hb).see.1, (J1'.out.kept hb).see.2.1, (J2'.out.kept hb).see.1, (J2'.out.kept hb).see.2.1⟩))
    have t1 := Lib.hid (show Below wC.heap.size wC wC.drew from (Below.refl _ _).drew)
    refine wp_region_held_drew (S := fun w' => w'.cell? ⟨w.heap.size, 0, none⟩ = some (.slice (some ⟨b, off, none⟩) 2 W.sc) ∧ w'.cell? ⟨w.heap.size, 1, none⟩ = some (.slice W.ca W.cl W.cc) ∧ w'.cell? ⟨w.heap.size + 1, 0, none⟩ = some (.slice B.sa B.sl B.sc) ∧ w'.cell? ⟨w.heap.size + 1, 1, none⟩ = some (.slice B.ca B.cl B.cc)) (by kernel_rfl) (SK.out _ t1.out) (fun hHeld => ?_)
    refine held_take 0 (.agg #[.slice (some ⟨b, off, none⟩) 2 W.sc, .slice W.ca W.cl W.cc]) rfl (by kernel_rfl) (by kernel_rfl) (by kernel_rfl) (fun _ _ _ h => h) (by rfl) (by intro w' hS; go_simp) (by assumption) ?_
    try simp only [Act.put, List.setIfInBounds_toArray, List.set_cons_zero, List.set_cons_succ]
    refine held_call 1 (by kernel_rfl) rfl (by rfl) (fun K hK => ?_)
    go_simp
    refine (C1.out wC.drew t1.out).mono ?_
    rintro e wq1 ⟨rfl, hb⟩
    have bq1 := Lib.hid (t1.out.trans ((hb).mono t1.out.size))
    go_wp2_with fail
    refine hK.out _ _ (SK.out _ bq1.out) (fun hHeld => ?_)
    try simp only [Act.put, List.setIfInBounds_toArray, List.set_cons_zero, List.set_cons_succ]
    refine held_take 2 (.bool true) rfl (by kernel_rfl) (by kernel_rfl) (by kernel_rfl) (fun _ _ _ h => h) (by rfl) (by intro w' hS; go_simp) (by assumption) ?_
    try simp only [Act.put, List.setIfInBounds_toArray, List.set_cons_zero, List.set_cons_succ]
    refine held_take 3 (.agg #[.slice (some ⟨b, off, none⟩) 2 W.sc, .slice W.ca W.cl W.cc]) rfl (by kernel_rfl) (by kernel_rfl) (by kernel_rfl) (fun _ _ _ h => h) (by rfl) (by intro w' hS; go_simp) (by assumption) ?_
    try simp only [Act.put, List.setIfInBounds_toArray, List.set_cons_zero, List.set_cons_succ]
    refine held_take 4 (.agg #[.slice B.sa B.sl B.sc, .slice B.ca B.cl B.cc]) rfl (by kernel_rfl) (by kernel_rfl) (by kernel_rfl) (fun _ _ _ h => h) (by rfl) (by intro w' hS; go_simp) (by assumption) ?_
    try simp only [Act.put, List.setIfInBounds_toArray, List.set_cons_zero, List.set_cons_succ]
    refine held_call 5 (by kernel_rfl) rfl (by rfl) (fun K hK => ?_)
    go_simp
    refine (C2.out wq1 bq1.out).mono ?_
    rintro e wq2 ⟨rfl, hb⟩
    have bq2 := Lib.hid (bq1.out.trans ((hb).mono bq1.out.size))
    go_wp2_with fail
    refine hK.out _ _ (SK.out _ bq2.out) (fun hHeld => ?_)
    try simp only [Act.put, List.setIfInBounds_toArray, List.set_cons_zero, List.set_cons_succ]
    refine held_take 6 (.bool false) rfl (by kernel_rfl) (by kernel_rfl) (by kernel_rfl) (fun _ _ _ h => h) (by rfl) (by intro w' hS; go_simp) (by assumption) ?_
    try simp only [Act.put, List.setIfInBounds_toArray, List.set_cons_zero, List.set_cons_succ]
    refine held_take 7 (.bool false) rfl (by kernel_rfl) (by kernel_rfl) (by kernel_rfl) (fun _ _ _ h => h) (by rfl) (by intro w' hS; go_simp) (by assumption) ?_
    try simp only [Act.put, List.setIfInBounds_toArray, List.set_cons_zero, List.set_cons_succ]
    refine held_skip 8 rfl (by kernel_rfl) (by kernel_rfl) (by kernel_rfl) (fun _ _ _ h => h) (by rfl) (by assumption) ?_
    try simp only [Act.put, List.setIfInBounds_toArray, List.set_cons_zero, List.set_cons_succ]
    refine held_left 9 (by kernel_rfl) rfl (by rfl) (by assumption) ?_
    try simp only [Act.put, List.setIfInBounds_toArray, List.set_cons_zero, List.set_cons_succ]
    refine held_take 10 (.bool false) rfl (by kernel_rfl) (by kernel_rfl) (by kernel_rfl) (fun _ _ _ h => h) (by rfl) (by intro w' hS; go_simp) (by assumption) ?_
    try simp only [Act.put, List.setIfInBounds_toArray, List.set_cons_zero, List.set_cons_succ]
    refine held_take 11 (.bool false) rfl (by kernel_rfl) (by kernel_rfl) (by kernel_rfl) (fun _ _ _ h => h) (by rfl) (by intro w' hS; go_simp) (by assumption) ?_
    try simp only [Act.put, List.setIfInBounds_toArray, List.set_cons_zero, List.set_cons_succ]
    refine held_skip 12 rfl (by kernel_rfl) (by kernel_rfl) (by kernel_rfl) (fun _ _ _ h => h) (by rfl) (by assumption) ?_
    try simp only [Act.put, List.setIfInBounds_toArray, List.set_cons_zero, List.set_cons_succ]
    refine held_skip 13 rfl (by kernel_rfl) (by kernel_rfl) (by kernel_rfl) (fun _ _ _ h => h) (by rfl) (by assumption) ?_
    try simp only [Act.put, List.setIfInBounds_toArray, List.set_cons_zero, List.set_cons_succ]
    refine held_skip 14 rfl (by kernel_rfl) (by kernel_rfl) (by kernel_rfl) (fun _ _ _ h => h) (by rfl) (by assumption) ?_
    try simp only [Act.put, List.setIfInBounds_toArray, List.set_cons_zero, List.set_cons_succ]
    refine held_skip 15 rfl (by kernel_rfl) (by kernel_rfl) (by kernel_rfl) (fun _ _ _ h => h) (by rfl) (by assumption) ?_
    try simp only [Act.put, List.setIfInBounds_toArray, List.set_cons_zero, List.set_cons_succ]
    refine held_skip 16 rfl (by kernel_rfl) (by kernel_rfl) (by kernel_rfl) (fun _ _ _ h => h) (by rfl) (by assumption) ?_
    try simp only [Act.put, List.setIfInBounds_toArray, List.set_cons_zero, List.set_cons_succ]
    refine held_skip 17 rfl (by kernel_rfl) (by kernel_rfl) (by kernel_rfl) (fun _ _ _ h => h) (by rfl) (by assumption) ?_
    try simp only [Act.put, List.setIfInBounds_toArray, List.set_cons_zero, List.set_cons_succ]
    refine held_skip 18 rfl (by kernel_rfl) (by kernel_rfl) (by kernel_rfl) (fun _ _ _ h => h) (by rfl) (by assumption) ?_
    try simp only [Act.put, List.setIfInBounds_toArray, List.set_cons_zero, List.set_cons_succ]
    refine held_skip 19 rfl (by kernel_rfl) (by kernel_rfl) (by kernel_rfl) (fun _ _ _ h => h) (by rfl) (by assumption) ?_
    try simp only [Act.put, List.setIfInBounds_toArray, List.set_cons_zero, List.set_cons_succ]
    refine held_take 20 (.bool false) rfl (by kernel_rfl) (by kernel_rfl) (by kernel_rfl) (fun _ _ _ h => h) (by rfl) (by intro w' hS; go_simp) (by assumption) ?_
    try simp only [Act.put, List.setIfInBounds_toArray, List.set_cons_zero, List.set_cons_succ]
    refine held_take 21 (.bool false) rfl (by kernel_rfl) (by kernel_rfl) (by kernel_rfl) (fun _ _ _ h => h) (by rfl) (by intro w' hS; go_simp) (by assumption) ?_
    try simp only [Act.put, List.setIfInBounds_toArray, List.set_cons_zero, List.set_cons_succ]
    refine wpAnyH_done (by kernel_rfl) ?_ _
    go_wp2_with fail
    go_ret
    exact ⟨ret_bool E.out, z.out.trans (bq2.out.mono z.out.size)⟩
  simp only [p] at C2
  replace C2 := Lib.hid C2
  cases q : rightT x.ss x.cl
  · have E := Lib.hid (E3.out q)
    simp only [q] at C3
    replace C3 := Lib.hid C3
    clear q p m F1 E2 E3 E4
    go_enter Try.func27, Try.ntmps27
    go_upto_region 1 with (fail)
    rw [hwA.out, hwB.out, hwC.out]
    have SK := Lib.hid (fun w' (hb : Below wC.heap.size wC w') => (show w'.cell? ⟨w.heap.size, 0, none⟩ = some (.slice (some ⟨b, off, none⟩) 2 W.sc) ∧ w'.cell? ⟨w.heap.size, 1, none⟩ = some (.slice W.ca W.cl W.cc) ∧ w'.cell? ⟨w.heap.size + 1, 0, none⟩ = some (.slice B.sa B.sl B.sc) ∧ w'.cell? ⟨w.heap.size + 1, 1, none⟩ = some (.slice B.ca B.cl B.cc) ∧ w'.cell? ⟨w.heap.size + 1 + 1, 0, none⟩ = some (.slice x.sa x.sl x.sc) ∧ w'.cell? ⟨w.heap.size + 1 + 1, 1, none⟩ = some (.slice x.ca x.cl x.cc) from ⟨(J1'.out.kept hb).see.1, (J1'.out.kept hb).see.2.1, (J2'.out.kept hb).see.1, (J2'.out.kept hb).see.2.1, (J3.out.kept hb).see.1, (J3.out.kept hb).see.2.1⟩))
    have t1 := Lib.hid (show Below wC.heap.size wC wC.drew from (Below.refl _ _).drew)
    refine wp_region_held_drew (S := fun w' => w'.cell? ⟨w.heap.size, 0, none⟩ = some (.slice (some ⟨b, off, none⟩) 2 W.sc) ∧ w'.cell? ⟨w.heap.size, 1, none⟩ = some (.slice W.ca W.cl W.cc) ∧ w'.cell? ⟨w.heap.size + 1, 0, none⟩ = some (.slice B.sa B.sl B.sc) ∧ w'.cell? ⟨w.heap.size + 1, 1, none⟩ = some (.slice B.ca B.cl B.cc) ∧ w'.cell? ⟨w.heap.size + 1 + 1, 0, none⟩ = some (.slice x.sa x.sl x.sc) ∧ w'.cell? ⟨w.heap.size + 1 + 1, 1, none⟩ = some (.slice x.ca x.cl x.cc)) (by kernel_rfl) (SK.out _ t1.out) (fun hHeld => ?_)
    refine held_take 0 (.agg #[.slice (some ⟨b, off, none⟩) 2 W.sc, .slice W.ca W.cl W.cc]) rfl (by kernel_rfl) (by kernel_rfl) (by kernel_rfl) (fun _ _ _ h => h) (by rfl) (by intro w' hS; go_simp) (by assumption) ?_
    try simp only [Act.put, List.setIfInBounds_toArray, List.set_cons_zero, List.set_cons_succ]
    refine held_call 1 (by kernel_rfl) rfl (by rfl) (fun K hK => ?_)
    go_simp
    refine (C1.out wC.drew t1.out).mono ?_
    rintro e wq1 ⟨rfl, hb⟩
    have bq1 := Lib.hid (t1.out.trans ((hb).mono t1.out.size))
    go_wp2_with fail
    refine hK.out _ _ (SK.out _ bq1.out) (fun hHeld => ?_)
    try simp only [Act.put, List.setIfInBounds_toArray, List.set_cons_zero, List.set_cons_succ]
    refine held_take 2 (.bool true) rfl (by kernel_rfl) (by kernel_rfl) (by kernel_rfl) (fun _ _ _ h => h) (by rfl) (by intro w' hS; go_simp) (by assumption) ?_
    try simp only [Act.put, List.setIfInBounds_toArray, List.set_cons_zero, List.set_cons_succ]
    refine held_take 3 (.agg #[.slice (some ⟨b, off, none⟩) 2 W.sc, .slice W.ca W.cl W.cc]) rfl (by kernel_rfl) (by kernel_rfl) (by kernel_rfl) (fun _ _ _ h => h) (by rfl) (by intro w' hS; go_simp) (by assumption) ?_
    try simp only [Act.put, List.setIfInBounds_toArray, List.set_cons_zero, List.set_cons_succ]
    refine held_take 4 (.agg #[.slice B.sa B.sl B.sc, .slice B.ca B.cl B.cc]) rfl (by kernel_rfl) (by kernel_rfl) (by kernel_rfl) (fun _ _ _ h => h) (by rfl) (by intro w' hS; go_simp) (by assumption) ?_
    try simp only [Act.put, List.setIfInBounds_toArray, List.set_cons_zero, List.set_cons_succ]
    refine held_call 5 (by kernel_rfl) rfl (by rfl) (fun K hK => ?_)
    go_simp
    refine (C2.out wq1 bq1.out).mono ?_
    rintro e wq2 ⟨rfl, hb⟩
    have bq2 := Lib.hid (bq1.out.trans ((hb).mono bq1.out.size))
    go_wp2_with fail
    refine hK.out _ _ (SK.out _ bq2.out) (fun hHeld => ?_)
    try simp only [Act.put, List.setIfInBounds_toArray, List.set_cons_zero, List.set_cons_succ]
    refine held_take 6 (.bool true) rfl (by kernel_rfl) (by kernel_rfl) (by kernel_rfl) (fun _ _ _ h => h) (by rfl) (by intro w' hS; go_simp) (by assumption) ?_
    try simp only [Act.put, List.setIfInBounds_toArray, List.set_cons_zero, List.set_cons_succ]
    refine held_take 7 (.bool true) rfl (by kernel_rfl) (by kernel_rfl) (by kernel_rfl) (fun _ _ _ h => h) (by rfl) (by intro w' hS; go_simp) (by assumption) ?_
    try simp only [Act.put, List.setIfInBounds_toArray, List.set_cons_zero, List.set_cons_succ]
    refine held_take 8 (.agg #[.slice x.sa x.sl x.sc, .slice x.ca x.cl x.cc]) rfl (by kernel_rfl) (by kernel_rfl) (by kernel_rfl) (fun _ _ _ h => h) (by rfl) (by intro w' hS; go_simp) (by assumption) ?_
    try simp only [Act.put, List.setIfInBounds_toArray, List.set_cons_zero, List.set_cons_succ]
    refine held_call 9 (by kernel_rfl) rfl (by rfl) (fun K hK => ?_)
    go_simp
    refine (C3.out wq2 bq2.out).mono ?_
    rintro e wq3 ⟨rfl, hb⟩
    have bq3 := Lib.hid (bq2.out.trans ((hb).mono bq2.out.size))
    go_wp2_with fail
    refine hK.out _ _ (SK.out _ bq3.out) (fun hHeld => ?_)
    try simp only [Act.put, List.setIfInBounds_toArray, List.set_cons_zero, List.set_cons_succ]
    refine held_take 10 (.bool false) rfl (by kernel_rfl) (by kernel_rfl) (by kernel_rfl) (fun _ _ _ h => h) (by rfl) (by intro w' hS; go_simp) (by assumption) ?_
    try simp only [Act.put, List.setIfInBounds_toArray, List.set_cons_zero, List.set_cons_succ]
    refine held_take 11 (.bool false) rfl (by kernel_rfl) (by kernel_rfl) (by kernel_rfl) (fun _ _ _ h => h) (by rfl) (by intro w' hS; go_simp) (by assumption) ?_
    try simp only [Act.put, List.setIfInBounds_toArray, List.set_cons_zero, List.set_cons_succ]
    refine held_skip 12 rfl (by kernel_rfl) (by kernel_rfl) (by kernel_rfl) (fun _ _ _ h => h) (by rfl) (by assumption) ?_
    try simp only [Act.put, List.setIfInBounds_toArray, List.set_cons_zero, List.set_cons_succ]
    refine held_skip 13 rfl (by kernel_rfl) (by kernel_rfl) (by kernel_rfl) (fun _ _ _ h => h) (by rfl) (by assumption) ?_
    try simp only [Act.put, List.setIfInBounds_toArray, List.set_cons_zero, List.set_cons_succ]
    refine held_skip 14 rfl (by kernel_rfl) (by kernel_rfl) (by kernel_rfl) (fun _ _ _ h => h) (by rfl) (by assumption) ?_
    try simp only [Act.put, List.setIfInBounds_toArray, List.set_cons_zero, List.set_cons_succ]
    refine held_skip 15 rfl (by kernel_rfl) (by kernel_rfl) (by kernel_rfl) (fun _ _ _ h => h) (by rfl) (by assumption) ?_
    try simp only [Act.put, List.setIfInBounds_toArray, List.set_cons_zero, List.set_cons_succ]
    refine held_skip 16 rfl (by kernel_rfl) (by kernel_rfl) (by kernel_rfl) (fun _ _ _ h => h) (by rfl) (by assumption) ?_
    try simp only [Act.put, List.setIfInBounds_toArray, List.set_cons_zero, List.set_cons_succ]
    refine held_skip 17 rfl (by kernel_rfl) (by kernel_rfl) (by kernel_rfl) (fun _ _ _ h => h) (by rfl) (by assumption) ?_
    try simp only [Act.put, List.setIfInBounds_toArray, List.set_cons_zero, List.set_cons_succ]
    refine held_skip 18 rfl (by kernel_rfl) (by kernel_rfl) (by kernel_rfl) (fun _ _ _ h => h) (by rfl) (by assumption) ?_
    try simp only [Act.put, List.setIfInBounds_toArray, List.set_cons_zero, List.set_cons_succ]
    refine held_skip 19 rfl (by kernel_rfl) (by kernel_rfl) (by kernel_rfl) (fun _ _ _ h => h) (by rfl) (by assumption) ?_
    try simp only [Act.put, List.setIfInBounds_toArray, List.set_cons_zero, List.set_cons_succ]
    refine held_take 20 (.bool false) rfl (by kernel_rfl) (by kernel_rfl) (by kernel_rfl) (fun _ _ _ h => h) (by rfl) (by intro w' hS; go_simp) (by assumption) ?_
    try simp only [Act.put, List.setIfInBounds_toArray, List.set_cons_zero, List.set_cons_succ]
    refine held_take 21 (.bool false) rfl (by kernel_rfl) (by kernel_rfl) (by kernel_rfl) (fun _ _ _ h => h) (by rfl) (by intro w' hS; go_simp) (by assumption) ?_
    try simp only [Act.put, List.setIfInBounds_toArray, List.set_cons_zero, List.set_cons_succ]
    refine wpAnyH_done (by kernel_rfl) ?_ _
    go_wp2_with fail
    go_ret
    exact ⟨ret_bool E.out, z.out.trans (bq3.out.mono z.out.size)⟩
  have E := Lib.hid (E4.out p q)
  simp only [q] at C3
  replace C3 := Lib.hid C3
  clear q p m E2 E3 E4
  go_enter Try.func27, Try.ntmps27
  go_upto_region 1 with (fail)
  rw [hwA.out, hwB.out, hwC.out]
  have SK := Lib.hid (fun w' (hb : Below wC.heap.size wC w') => (show w'.cell? ⟨w.heap.size, 0, none⟩ = some (.slice (some ⟨b, off, none⟩) 2 W.sc) ∧ w'.cell? ⟨w.heap.size, 1, none⟩ = some (.slice W.ca W.cl W.cc) ∧ w'.cell? ⟨w.heap.size + 1, 0, none⟩ = some (.slice B.sa B.sl B.sc) ∧ w'.cell? ⟨w.heap.size + 1, 1, none⟩ = some (.slice B.ca B.cl B.cc) ∧ w'.cell? ⟨w.heap.size + 1 + 1, 0, none⟩ = some (.slice x.sa x.sl x.sc) ∧ w'.cell? ⟨w.heap.size + 1 + 1, 1, none⟩ = some (.slice x.ca x.cl x.cc) ∧ w'.cell? ⟨b, off + 1, none⟩ = some (.int .i64 n) from ⟨(J1'.out.kept hb).see.1, (J1'.out.kept hb).see.2.1, (J2'.out.kept hb).see.1, (J2'.out.kept hb).see.2.1, (J3.out.kept hb).see.1, (J3.out.kept hb).see.2.1, F1.out w' hb⟩))
  have t1 := Lib.hid (show Below wC.heap.size wC wC.drew from (Below.refl _ _).drew)
  refine wp_region_held_drew (S := fun w' => w'.cell? ⟨w.heap.size, 0, none⟩ = some (.slice (some ⟨b, off, none⟩) 2 W.sc) ∧ w'.cell? ⟨w.heap.size, 1, none⟩ = some (.slice W.ca W.cl W.cc) ∧ w'.cell? ⟨w.heap.size + 1, 0, none⟩ = some (.slice B.sa B.sl B.sc) ∧ w'.cell? ⟨w.heap.size + 1, 1, none⟩ = some (.slice B.ca B.cl B.cc) ∧ w'.cell? ⟨w.heap.size + 1 + 1, 0, none⟩ = some (.slice x.sa x.sl x.sc) ∧ w'.cell? ⟨w.heap.size + 1 + 1, 1, none⟩ = some (.slice x.ca x.cl x.cc) ∧ w'.cell? ⟨b, off + 1, none⟩ = some (.int .i64 n)) (by kernel_rfl) (SK.out _ t1.out) (fun hHeld => ?_)
  refine held_take 0 (.agg #[.slice (some ⟨b, off, none⟩) 2 W.sc, .slice W.ca W.cl W.cc]) rfl (by kernel_rfl) (by kernel_rfl) (by kernel_rfl) (fun _ _ _ h => h) (by rfl) (by intro w' hS; go_simp) (by assumption) ?_
  try simp only [Act.put, List.setIfInBounds_toArray, List.set_cons_zero, List.set_cons_succ]
  refine held_call 1 (by kernel_rfl) rfl (by rfl) (fun K hK => ?_)
  go_simp
  refine (C1.out wC.drew t1.out).mono ?_
  rintro e wq1 ⟨rfl, hb⟩
  have bq1 := Lib.hid (t1.out.trans ((hb).mono t1.out.size))
  go_wp2_with fail
  refine hK.out _ _ (SK.out _ bq1.out) (fun hHeld => ?_)
  try simp only [Act.put, List.setIfInBounds_toArray, List.set_cons_zero, List.set_cons_succ]
  refine held_take 2 (.bool true) rfl (by kernel_rfl) (by kernel_rfl) (by kernel_rfl) (fun _ _ _ h => h) (by rfl) (by intro w' hS; go_simp) (by assumption) ?_
  try simp only [Act.put, List.setIfInBounds_toArray, List.set_cons_zero, List.set_cons_succ]
  refine held_take 3 (.agg #[.slice (some ⟨b, off, none⟩) 2 W.sc, .slice W.ca W.cl W.cc]) rfl (by kernel_rfl) (by kernel_rfl) (by kernel_rfl) (fun _ _ _ h => h) (by rfl) (by intro w' hS; go_simp) (by assumption) ?_
  try simp only [Act.put, List.setIfInBounds_toArray, List.set_cons_zero, List.set_cons_succ]
  refine held_take 4 (.agg #[.slice B.sa B.sl B.sc, .slice B.ca B.cl B.cc]) rfl (by kernel_rfl) (by kernel_rfl) (by kernel_rfl) (fun _ _ _ h => h) (by rfl) (by intro w' hS; go_simp) (by assumption) ?_
  try simp only [Act.put, List.setIfInBounds_toArray, List.set_cons_zero, List.set_cons_succ]
  refine held_call 5 (by kernel_rfl) rfl (by rfl) (fun K hK => ?_)
  go_simp
  refine (C2.out wq1 bq1.out).mono ?_
  rintro e wq2 ⟨rfl, hb⟩
  have bq2 := Lib.hid (bq1.out.trans ((hb).mono bq1.out.size))
  go_wp2_with fail
  refine hK.out _ _ (SK.out _ bq2.out) (fun hHeld => ?_)
  try simp only [Act.put, List.setIfInBounds_toArray, List.set_cons_zero, List.set_cons_succ]
  refine held_take 6 (.bool true) rfl (by kernel_rfl) (by kernel_rfl) (by kernel_rfl) (fun _ _ _ h => h) (by rfl) (by intro w' hS; go_simp) (by assumption) ?_
  try simp only [Act.put, List.setIfInBounds_toArray, List.set_cons_zero, List.set_cons_succ]
  refine held_take 7 (.bool true) rfl (by kernel_rfl) (by kernel_rfl) (by kernel_rfl) (fun _ _ _ h => h) (by rfl) (by intro w' hS; go_simp) (by assumption) ?_
  try simp only [Act.put, List.setIfInBounds_toArray, List.set_cons_zero, List.set_cons_succ]
  refine held_take 8 (.agg #[.slice x.sa x.sl x.sc, .slice x.ca x.cl x.cc]) rfl (by kernel_rfl) (by kernel_rfl) (by kernel_rfl) (fun _ _ _ h => h) (by rfl) (by intro w' hS; go_simp) (by assumption) ?_
  try simp only [Act.put, List.setIfInBounds_toArray, List.set_cons_zero, List.set_cons_succ]
  refine held_call 9 (by kernel_rfl) rfl (by rfl) (fun K hK => ?_)
  go_simp
  refine (C3.out wq2 bq2.out).mono ?_
  rintro e wq3 ⟨rfl, hb⟩
  have bq3 := Lib.hid (bq2.out.trans ((hb).mono bq2.out.size))
  go_wp2_with fail
  refine hK.out _ _ (SK.out _ bq3.out) (fun hHeld => ?_)
  try simp only [Act.put, List.setIfInBounds_toArray, List.set_cons_zero, List.set_cons_succ]
  refine held_take 10 (.bool true) rfl (by kernel_rfl) (by kernel_rfl) (by kernel_rfl) (fun _ _ _ h => h) (by rfl) (by intro w' hS; go_simp) (by assumption) ?_
  try simp only [Act.put, List.setIfInBounds_toArray, List.set_cons_zero, List.set_cons_succ]
  refine held_take 11 (.bool true) rfl (by kernel_rfl) (by kernel_rfl) (by kernel_rfl) (fun _ _ _ h => h) (by rfl) (by intro w' hS; go_simp) (by assumption) ?_
  try simp only [Act.put, List.setIfInBounds_toArray, List.set_cons_zero, List.set_cons_succ]
  refine held_take 12 (.pointer (some ⟨w.heap.size + 1 + 1, 1, none⟩)) rfl (by kernel_rfl) (by kernel_rfl) (by kernel_rfl) (fun _ _ _ h => h) (by rfl) (by intro w' hS; go_simp) (by assumption) ?_
  try simp only [Act.put, List.setIfInBounds_toArray, List.set_cons_zero, List.set_cons_succ]
  refine held_take 13 (.slice x.ca x.cl x.cc) rfl (by kernel_rfl) (by kernel_rfl) (by kernel_rfl) (fun _ _ _ h => h) (by rfl) (by intro w' hS; go_simp) (by assumption) ?_
  try simp only [Act.put, List.setIfInBounds_toArray, List.set_cons_zero, List.set_cons_succ]
  refine held_take 14 (.int .i64 x.cl) rfl (by kernel_rfl) (by kernel_rfl) (by kernel_rfl) (fun _ _ _ h => h) (by rfl) (by intro w' hS; go_simp) (by assumption) ?_
  try simp only [Act.put, List.setIfInBounds_toArray, List.set_cons_zero, List.set_cons_succ]
  refine held_take 15 (.pointer (some ⟨w.heap.size, 0, none⟩)) rfl (by kernel_rfl) (by kernel_rfl) (by kernel_rfl) (fun _ _ _ h => h) (by rfl) (by intro w' hS; go_simp) (by assumption) ?_
  try simp only [Act.put, List.setIfInBounds_toArray, List.set_cons_zero, List.set_cons_succ]
  refine held_take 16 (.slice (some ⟨b, off, none⟩) 2 W.sc) rfl (by kernel_rfl) (by kernel_rfl) (by kernel_rfl) (fun _ _ _ h => h) (by rfl) (by intro w' hS; go_simp) (by assumption) ?_
  try simp only [Act.put, List.setIfInBounds_toArray, List.set_cons_zero, List.set_cons_succ]
  refine held_take 17 (.pointer (some ⟨b, off + 1, none⟩)) rfl (by kernel_rfl) (by kernel_rfl) (by kernel_rfl) (fun _ _ _ h => h) (by rfl) (by intro w' hS; go_simp) (by assumption) ?_
  try simp only [Act.put, List.setIfInBounds_toArray, List.set_cons_zero, List.set_cons_succ]
  refine held_take 18 (.int .i64 n) rfl (by kernel_rfl) (by kernel_rfl) (by kernel_rfl) (fun _ _ _ h => h) (by rfl) (by intro w' hS; go_simp) (by assumption) ?_
  try simp only [Act.put, List.setIfInBounds_toArray, List.set_cons_zero, List.set_cons_succ]
  refine held_take 19 (.bool ((x.cl : Int) == n)) rfl (by kernel_rfl) (by kernel_rfl) (by kernel_rfl) (fun _ _ _ h => h) (by rfl) (by intro w' hS; go_simp) (by assumption) ?_
  try simp only [Act.put, List.setIfInBounds_toArray, List.set_cons_zero, List.set_cons_succ]
  refine held_take 20 (.bool ((x.cl : Int) == n)) rfl (by kernel_rfl) (by kernel_rfl) (by kernel_rfl) (fun _ _ _ h => h) (by rfl) (by intro w' hS; go_simp) (by assumption) ?_
  try simp only [Act.put, List.setIfInBounds_toArray, List.set_cons_zero, List.set_cons_succ]
  refine held_take 21 (.bool ((x.cl : Int) == n)) rfl (by kernel_rfl) (by kernel_rfl) (by kernel_rfl) (fun _ _ _ h => h) (by rfl) (by intro w' hS; go_simp) (by assumption) ?_
  try simp only [Act.put, List.setIfInBounds_toArray, List.set_cons_zero, List.set_cons_succ]
  refine wpAnyH_done (by kernel_rfl) ?_ _
  go_wp2_with fail
  go_ret
  exact ⟨ret_bool E.out, z.out.trans (bq3.out.mono z.out.size)⟩
end Go.Proofs.Ytlpecdfiagklpaa
