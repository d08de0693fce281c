/-
  The walk of the statement DenseRows.
-/
import Derived.Test.YtlpecdfiagklpaaAwake06
import Derived.Test.YtlpecdfiagklpaaDenseR
import Derived.Test.YtlpecdfiagklpaaDenseRow
namespace Go.Proofs.Ytlpecdfiagklpaa
open Go.RowKit
set_option linter.unusedVariables false
set_option linter.unusedSimpArgs false

set_option maxRecDepth 100000 in
set_option maxHeartbeats 8000000 in
theorem denseRows_big (t : TV) (i j : Int) (w : World) (hs : ¬ (t.cl ≤ 400 ∧ t.sl ≤ 9)) :
    Calls Try.prog 5 #[.agg #[.slice t.sa t.sl t.sc, .slice t.ca t.cl t.cc], .int .i64 i, .int .i64 j] w fun e w' => e = .returned (.bool true) ∧ Below w.heap.size w w' := by
  obtain ⟨wB, hwB, J, z, -⟩ := grid_box w (.slice t.sa t.sl t.sc) (.slice t.ca t.cl t.cc)
  obtain ⟨j0, j1, -, -⟩ := J.out.see
  by_cases c : t.cl ≤ 400
  · have d1 : decide ((400 : Int) < (t.cl : Int)) = false := decide_eq_false (by omega)
    have d2 : decide (400 < t.cl) = false := decide_eq_false (by omega)
    have d3 : decide ((9 : Int) < (t.sl : Int)) = true := decide_eq_true (by omega)
    have d4 : decide (9 < t.sl) = true := decide_eq_true (by omega)
    clear hs c
    go_enter Try.func5, Try.ntmps5
    go_upto_region 1 with (fail)
    rw [hwB.out]
    go_wp2_with fail
    refine (awake06_any _).mono ?_
    rintro e w9 ⟨rfl, hb9⟩
    go_wp2_with fail
    go_ret
    exact ⟨rfl, z.out.trans (hb9.mono z.out.size)⟩
  · have d1 : decide ((400 : Int) < (t.cl : Int)) = true := decide_eq_true (by omega)
    have d2 : decide (400 < t.cl) = true := decide_eq_true (by omega)
    clear hs c
    go_enter Try.func5, Try.ntmps5
    go_upto_region 1 with (fail)
    rw [hwB.out]
    go_wp2_with fail
    refine (awake06_any _).mono ?_
    rintro e w9 ⟨rfl, hb9⟩
    go_wp2_with fail
    go_ret
    exact ⟨rfl, z.out.trans (hb9.mono z.out.size)⟩

set_option maxRecDepth 100000 in
set_option maxHeartbeats 8000000 in
theorem denseRows_no (t : TV) (i j : Int) (w : World) (h : t.At w) (hs1 : t.cl ≤ 400) (hs2 : t.sl ≤ 9) (hm : matT t.ss t.cl = false) :
    Calls Try.prog 5 #[.agg #[.slice t.sa t.sl t.sc, .slice t.ca t.cl t.cc], .int .i64 i, .int .i64 j] w fun e w' => e = .returned (.bool true) ∧ Below w.heap.size w w' := by
  obtain ⟨wB, hwB, J, z, -⟩ := grid_box w (.slice t.sa t.sl t.sc) (.slice t.ca t.cl t.cc)
  have RW := Lib.hid (fun w1 (hb : Below wB.heap.size wB w1) => drow_no1 t i w1 ((h.kept z.out).kept hb) hm)
  have CL := Lib.hid (fun w1 (hb : Below wB.heap.size wB w1) => dcol_no1 t j w1 ((h.kept z.out).kept hb) hm)
  have RR := fun w1 (hb : Below wB.heap.size wB w1) => rright_any t.sa t.sl t.sc t.ss t.ca t.cl t.cc w1 ((h.kept z.out).kept hb).1 (by omega)
  have hml : rightT t.ss t.cl = true → ((t.sl : Int) == 2) = false := by
    intro hr
    have e := h.1.1
    unfold matT at hm
    rw [hr, Bool.true_and] at hm
    have := of_decide_eq_false hm
    exact beq_eq_false_iff_ne.2 (by omega)
  obtain ⟨j0, j1, -, -⟩ := J.out.see
  have d1 : decide ((400 : Int) < (t.cl : Int)) = false := decide_eq_false (by omega)
  have d2 : decide (400 < t.cl) = false := decide_eq_false (by omega)
  have d3 : decide ((9 : Int) < (t.sl : Int)) = false := decide_eq_false (by omega)
  have d4 : decide (9 < t.sl) = false := decide_eq_false (by omega)
  cases hr : rightT t.ss t.cl
  · simp only [hr] at RR
    replace RR := Lib.hid RR
    clear hr hml h hm hs1 hs2
    go_enter Try.func5, Try.ntmps5
    go_upto_region 1 with (fail)
    rw [hwB.out]
    go_wp2_with fail
    clear j0 j1
    have SK := Lib.hid (fun w' (hb : Below wB.heap.size wB w') => (show w'.cell? ⟨w.heap.size, 0, none⟩ = some (.slice t.sa t.sl t.sc) ∧ w'.cell? ⟨w.heap.size, 1, none⟩ = some (.slice t.ca t.cl t.cc) from ⟨(J.out.kept hb).see.1, (J.out.kept hb).see.2.1⟩))
    have t1 := Lib.hid (show Below wB.heap.size wB wB.drew from (Below.refl _ _).drew)
    go_upto_region 3 with (fail)
    refine wp_region_held_drew (S := fun w' => w'.cell? ⟨w.heap.size, 0, none⟩ = some (.slice t.sa t.sl t.sc) ∧ w'.cell? ⟨w.heap.size, 1, none⟩ = some (.slice t.ca t.cl t.cc)) (by kernel_rfl) (SK.out _ t1.out) (fun hHeld => ?_)
    refine held_take 0 (.agg #[.slice t.sa t.sl t.sc, .slice t.ca t.cl t.cc]) rfl (by kernel_rfl) (by kernel_rfl) (by kernel_rfl) (fun _ _ _ h => h) (by rfl) (by intro w' hS; go_simp) (by assumption) ?_
    try simp only [Act.put, List.setIfInBounds_toArray, List.set_cons_zero, List.set_cons_succ]
    refine held_take 1 (.int .i64 i) rfl (by kernel_rfl) (by kernel_rfl) (by kernel_rfl) (fun _ _ _ h => h) (by rfl) (by intro w' hS; go_simp) (by assumption) ?_
    try simp only [Act.put, List.setIfInBounds_toArray, List.set_cons_zero, List.set_cons_succ]
    refine held_take 3 (.agg #[.slice t.sa t.sl t.sc, .slice t.ca t.cl t.cc]) rfl (by kernel_rfl) (by kernel_rfl) (by kernel_rfl) (fun _ _ _ h => h) (by rfl) (by intro w' hS; go_simp) (by assumption) ?_
    try simp only [Act.put, List.setIfInBounds_toArray, List.set_cons_zero, List.set_cons_succ]
    refine held_take 4 (.int .i64 j) rfl (by kernel_rfl) (by kernel_rfl) (by kernel_rfl) (fun _ _ _ h => h) (by rfl) (by intro w' hS; go_simp) (by assumption) ?_
    try simp only [Act.put, List.setIfInBounds_toArray, List.set_cons_zero, List.set_cons_succ]
    refine held_call 2 (by kernel_rfl) rfl (by rfl) (fun K hK => ?_)
    go_simp
    refine (RW.out wB.drew t1.out).mono ?_
    rintro e wq1 ⟨rfl, hb⟩
    have bq1 := Lib.hid (t1.out.trans ((hb).mono t1.out.size))
    go_wp2_with fail
    refine hK.out _ _ (SK.out _ bq1.out) (fun hHeld => ?_)
    try simp only [Act.put, List.setIfInBounds_toArray, List.set_cons_zero, List.set_cons_succ]
    refine held_call 5 (by kernel_rfl) rfl (by rfl) (fun K hK => ?_)
    go_simp
    refine (CL.out wq1 bq1.out).mono ?_
    rintro e wq2 ⟨rfl, hb⟩
    have bq2 := Lib.hid (bq1.out.trans ((hb).mono bq1.out.size))
    go_wp2_with fail
    refine hK.out _ _ (SK.out _ bq2.out) (fun hHeld => ?_)
    try simp only [Act.put, List.setIfInBounds_toArray, List.set_cons_zero, List.set_cons_succ]
    refine held_take 6 (.slice none 0 0) rfl (by kernel_rfl) (by kernel_rfl) (by kernel_rfl) (fun _ _ _ h => h) (by rfl) (by intro w' hS; go_simp) (by assumption) ?_
    try simp only [Act.put, List.setIfInBounds_toArray, List.set_cons_zero, List.set_cons_succ]
    refine held_take 7 (.slice none 0 0) rfl (by kernel_rfl) (by kernel_rfl) (by kernel_rfl) (fun _ _ _ h => h) (by rfl) (by intro w' hS; go_simp) (by assumption) ?_
    try simp only [Act.put, List.setIfInBounds_toArray, List.set_cons_zero, List.set_cons_succ]
    refine wpAnyH_done (by kernel_rfl) ?_ _
    obtain ⟨j0, j1, -, -⟩ := (J.out.kept bq2.out).see
    go_wp2_with fail
    refine (RR.out wq2 bq2.out).mono ?_
    rintro e w3 ⟨rfl, hb3⟩
    have b3 := Lib.hid (bq2.out.trans (hb3.mono bq2.out.size))
    have b3z := Lib.hid (z.out.trans (b3.out.mono z.out.size))
    clear j0 j1 hb3
    go_wp2_with fail
    refine (awake06_any _).mono ?_
    rintro e w9 ⟨rfl, hb9⟩
    go_wp2_with fail
    go_ret
    exact ⟨rfl, b3z.out.trans (hb9.mono b3z.out.size)⟩
  · have hq := hml hr
    simp only [hr] at RR
    replace RR := Lib.hid RR
    clear hr hml h hm hs1 hs2
    go_enter Try.func5, Try.ntmps5
    go_upto_region 1 with (fail)
    rw [hwB.out]
    go_wp2_with fail
    clear j0 j1
    have SK := Lib.hid (fun w' (hb : Below wB.heap.size wB w') => (show w'.cell? ⟨w.heap.size, 0, none⟩ = some (.slice t.sa t.sl t.sc) ∧ w'.cell? ⟨w.heap.size, 1, none⟩ = some (.slice t.ca t.cl t.cc) from ⟨(J.out.kept hb).see.1, (J.out.kept hb).see.2.1⟩))
    have t1 := Lib.hid (show Below wB.heap.size wB wB.drew from (Below.refl _ _).drew)
    go_upto_region 3 with (fail)
    refine wp_region_held_drew (S := fun w' => w'.cell? ⟨w.heap.size, 0, none⟩ = some (.slice t.sa t.sl t.sc) ∧ w'.cell? ⟨w.heap.size, 1, none⟩ = some (.slice t.ca t.cl t.cc)) (by kernel_rfl) (SK.out _ t1.out) (fun hHeld => ?_)
    refine held_take 0 (.agg #[.slice t.sa t.sl t.sc, .slice t.ca t.cl t.cc]) rfl (by kernel_rfl) (by kernel_rfl) (by kernel_rfl) (fun _ _ _ h => h) (by rfl) (by intro w' hS; go_simp) (by assumption) ?_
    try simp only [Act.put, List.setIfInBounds_toArray, List.set_cons_zero, List.set_cons_succ]
    refine held_take 1 (.int .i64 i) rfl (by kernel_rfl) (by kernel_rfl) (by kernel_rfl) (fun _ _ _ h => h) (by rfl) (by intro w' hS; go_simp) (by assumption) ?_
    try simp only [Act.put, List.setIfInBounds_toArray, List.set_cons_zero, List.set_cons_succ]
    refine held_take 3 (.agg #[.slice t.sa t.sl t.sc, .slice t.ca t.cl t.cc]) rfl (by kernel_rfl) (by kernel_rfl) (by kernel_rfl) (fun _ _ _ h => h) (by rfl) (by intro w' hS; go_simp) (by assumption) ?_
    try simp only [Act.put, List.setIfInBounds_toArray, List.set_cons_zero, List.set_cons_succ]
    refine held_take 4 (.int .i64 j) rfl (by kernel_rfl) (by kernel_rfl) (by kernel_rfl) (fun _ _ _ h => h) (by rfl) (by intro w' hS; go_simp) (by assumption) ?_
    try simp only [Act.put, List.setIfInBounds_toArray, List.set_cons_zero, List.set_cons_succ]
    refine held_call 2 (by kernel_rfl) rfl (by rfl) (fun K hK => ?_)
    go_simp
    refine (RW.out wB.drew t1.out).mono ?_
    rintro e wq1 ⟨rfl, hb⟩
    have bq1 := Lib.hid (t1.out.trans ((hb).mono t1.out.size))
    go_wp2_with fail
    refine hK.out _ _ (SK.out _ bq1.out) (fun hHeld => ?_)
    try simp only [Act.put, List.setIfInBounds_toArray, List.set_cons_zero, List.set_cons_succ]
    refine held_call 5 (by kernel_rfl) rfl (by rfl) (fun K hK => ?_)
    go_simp
    refine (CL.out wq1 bq1.out).mono ?_
    rintro e wq2 ⟨rfl, hb⟩
    have bq2 := Lib.hid (bq1.out.trans ((hb).mono bq1.out.size))
    go_wp2_with fail
    refine hK.out _ _ (SK.out _ bq2.out) (fun hHeld => ?_)
    try simp only [Act.put, List.setIfInBounds_toArray, List.set_cons_zero, List.set_cons_succ]
    refine held_take 6 (.slice none 0 0) rfl (by kernel_rfl) (by kernel_rfl) (by kernel_rfl) (fun _ _ _ h => h) (by rfl) (by intro w' hS; go_simp) (by assumption) ?_
    try simp only [Act.put, List.setIfInBounds_toArray, List.set_cons_zero, List.set_cons_succ]
    refine held_take 7 (.slice none 0 0) rfl (by kernel_rfl) (by kernel_rfl) (by kernel_rfl) (fun _ _ _ h => h) (by rfl) (by intro w' hS; go_simp) (by assumption) ?_
    try simp only [Act.put, List.setIfInBounds_toArray, List.set_cons_zero, List.set_cons_succ]
    refine wpAnyH_done (by kernel_rfl) ?_ _
    obtain ⟨j0, j1, -, -⟩ := (J.out.kept bq2.out).see
    go_wp2_with fail
    refine (RR.out wq2 bq2.out).mono ?_
    rintro e w3 ⟨rfl, hb3⟩
    have b3 := Lib.hid (bq2.out.trans (hb3.mono bq2.out.size))
    have b3z := Lib.hid (z.out.trans (b3.out.mono z.out.size))
    clear j0 j1 hb3
    obtain ⟨j0, j1, -, -⟩ := (J.out.kept b3.out).see
    go_wp2_with fail
    refine (awake06_any _).mono ?_
    rintro e w9 ⟨rfl, hb9⟩
    go_wp2_with fail
    go_ret
    exact ⟨rfl, b3z.out.trans (hb9.mono b3z.out.size)⟩

set_option maxRecDepth 100000 in
set_option maxHeartbeats 16000000 in
theorem denseRows_neg_neg (t : TV) (i j : Int) (w : World) (h : t.At w) (hc : t.Cap) (hs1 : t.cl ≤ 400) (hm : matT t.ss t.cl = true) (hi : i < 0) (hj : j < 0) :
    Calls Try.prog 5 #[.agg #[.slice t.sa t.sl t.sc, .slice t.ca t.cl t.cc], .int .i64 i, .int .i64 j] w fun e w' => e = .returned (.bool true) ∧ Below w.heap.size w w' := by
  obtain ⟨m, n, hss, hcl, m1, m2, n1, n2, hr⟩ := matT_facts hm
  have hs2 := matT_len h hm
  have hmn0 : m * n ≤ 400 := by omega
  have hm4 : m ≤ 400 := by have := Nat.mul_le_mul_left m n1; omega
  have hn4 : n ≤ 400 := by have := Nat.mul_le_mul_right n m1; omega
  obtain ⟨b, off, hba, hc0, hc1⟩ : ∃ b off, t.sa = some ⟨b, off, none⟩ ∧ w.cell? ⟨b, off, none⟩ = some (.int .i64 m) ∧ w.cell? ⟨b, off + 1, none⟩ = some (.int .i64 n) := by
    rcases h.1.2.2.2 with h4 | ⟨b, off, ha, hc⟩
    · omega
    · rw [hss] at hc
      exact ⟨b, off, ha, by simpa using hc 0 (by omega), by simpa using hc 1 (by omega)⟩
  have hC := h.2.1
  obtain ⟨cb, co, hca⟩ : ∃ cb co, t.ca = some ⟨cb, co, none⟩ := by
    rcases hC.2.2.2 with h4 | ⟨b, off, ha, hc⟩
    · have := Nat.mul_le_mul m1 n1; omega
    · exact ⟨b, off, ha⟩
  have RW := fun w1 (hb : Below w.heap.size w w1) => drow_no2 t i w1 (h.kept hb) hm (Or.inl hi)
  have CL := fun w1 (hb : Below w.heap.size w w1) => dcol_no2 t j w1 (h.kept hb) hm (Or.inl hj)
  have RR := fun w1 (hb : Below w.heap.size w w1) => rright_any t.sa t.sl t.sc t.ss t.ca t.cl t.cc w1 (h.kept hb).1 (by omega)
  rw [hr] at RR
  have CC0 := fun w1 (hb : Below w.heap.size w w1) => hC.kept hb
  have hcf := Lib.hid hC.2.2.1
  obtain ⟨cl, hcl2⟩ : ∃ cl, t.cl = cl := ⟨_, rfl⟩
  rw [hcl2] at RW CL RR CC0 hcl hs1
  rw [hba, hca, hs2] at RW CL RR
  rw [hca] at CC0
  rw [hba, hca, hs2, hcl2]
  obtain ⟨wB, hwB, J, z, -⟩ := grid_box w (.slice (some ⟨b, off, none⟩) 2 t.sc) (.slice (some ⟨cb, co, none⟩) cl t.cc)
  replace RW := Lib.hid (fun w1 (hb : Below wB.heap.size wB w1) => RW w1 (z.out.trans (hb.mono z.out.size)))
  replace CL := Lib.hid (fun w1 (hb : Below wB.heap.size wB w1) => CL w1 (z.out.trans (hb.mono z.out.size)))
  replace RR := Lib.hid (fun w1 (hb : Below wB.heap.size wB w1) => RR w1 (z.out.trans (hb.mono z.out.size)))
  have CC := Lib.hid (fun w1 (hb : Below wB.heap.size wB w1) => CC0 w1 (z.out.trans (hb.mono z.out.size)))
  have F0 := Lib.hid (fun w1 (hb : Below wB.heap.size wB w1) => cell_later hb (cell_later z.out hc0))
  have F1 := Lib.hid (fun w1 (hb : Below wB.heap.size wB w1) => cell_later hb (cell_later z.out hc1))
  have hL := Lib.hid hcl
  have hmn := Lib.hid hmn0
  have hcl4x := Lib.hid hs1
  obtain ⟨j0, j1, -, -⟩ := J.out.see
  have d1 : decide ((400 : Int) < (cl : Int)) = false := decide_eq_false (by omega)
  have d2 : decide (400 < cl) = false := decide_eq_false (by omega)
  have di1 : decide (i < 0) = true := decide_eq_true hi
  have dj1 : decide (j < 0) = true := decide_eq_true hj
  clear hba hca hs2 hcl2 hc0 hc1 hC CC0 h hc hm hr hss hcl hmn0 m2 n2 hi hj
  go_enter Try.func5, Try.ntmps5
  go_upto_region 1 with (fail)
  rw [hwB.out]
  go_wp2_with fail
  clear j0 j1
  have SK := Lib.hid (fun w' (hb : Below wB.heap.size wB w') => (show w'.cell? ⟨w.heap.size, 0, none⟩ = some (.slice (some ⟨b, off, none⟩) 2 t.sc) ∧ w'.cell? ⟨w.heap.size, 1, none⟩ = some (.slice (some ⟨cb, co, none⟩) cl t.cc) from ⟨(J.out.kept hb).see.1, (J.out.kept hb).see.2.1⟩))
  have t1 := Lib.hid (show Below wB.heap.size wB wB.drew from (Below.refl _ _).drew)
  go_upto_region 3 with (fail)
  refine wp_region_held_drew (S := fun w' => w'.cell? ⟨w.heap.size, 0, none⟩ = some (.slice (some ⟨b, off, none⟩) 2 t.sc) ∧ w'.cell? ⟨w.heap.size, 1, none⟩ = some (.slice (some ⟨cb, co, none⟩) cl t.cc)) (by kernel_rfl) (SK.out _ t1.out) (fun hHeld => ?_)
  refine held_take 0 (.agg #[.slice (some ⟨b, off, none⟩) 2 t.sc, .slice (some ⟨cb, co, none⟩) cl t.cc]) rfl (by kernel_rfl) (by kernel_rfl) (by kernel_rfl) (fun _ _ _ h => h) (by rfl) (by intro w' hS; go_simp) (by assumption) ?_
  try simp only [Act.put, List.setIfInBounds_toArray, List.set_cons_zero, List.set_cons_succ]
  refine held_take 1 (.int .i64 i) rfl (by kernel_rfl) (by kernel_rfl) (by kernel_rfl) (fun _ _ _ h => h) (by rfl) (by intro w' hS; go_simp) (by assumption) ?_
  try simp only [Act.put, List.setIfInBounds_toArray, List.set_cons_zero, List.set_cons_succ]
  refine held_take 3 (.agg #[.slice (some ⟨b, off, none⟩) 2 t.sc, .slice (some ⟨cb, co, none⟩) cl t.cc]) rfl (by kernel_rfl) (by kernel_rfl) (by kernel_rfl) (fun _ _ _ h => h) (by rfl) (by intro w' hS; go_simp) (by assumption) ?_
  try simp only [Act.put, List.setIfInBounds_toArray, List.set_cons_zero, List.set_cons_succ]
  refine held_take 4 (.int .i64 j) rfl (by kernel_rfl) (by kernel_rfl) (by kernel_rfl) (fun _ _ _ h => h) (by rfl) (by intro w' hS; go_simp) (by assumption) ?_
  try simp only [Act.put, List.setIfInBounds_toArray, List.set_cons_zero, List.set_cons_succ]
  refine held_call 2 (by kernel_rfl) rfl (by rfl) (fun K hK => ?_)
  go_simp
  refine (RW.out wB.drew t1.out).mono ?_
  rintro e wq1 ⟨rfl, hb⟩
  have bq1 := Lib.hid (t1.out.trans ((hb).mono t1.out.size))
  go_wp2_with fail
  refine hK.out _ _ (SK.out _ bq1.out) (fun hHeld => ?_)
  try simp only [Act.put, List.setIfInBounds_toArray, List.set_cons_zero, List.set_cons_succ]
  refine held_call 5 (by kernel_rfl) rfl (by rfl) (fun K hK => ?_)
  go_simp
  refine (CL.out wq1 bq1.out).mono ?_
  rintro e wq2 ⟨rfl, hb⟩
  have bq2 := Lib.hid (bq1.out.trans ((hb).mono bq1.out.size))
  have kkb := Lib.hid hb
  go_wp2_with fail
  refine hK.out _ _ (SK.out _ bq2.out) (fun hHeld => ?_)
  try simp only [Act.put, List.setIfInBounds_toArray, List.set_cons_zero, List.set_cons_succ]
  refine held_take 6 (.slice none 0 0) rfl (by kernel_rfl) (by kernel_rfl) (by kernel_rfl) (fun _ _ _ h => h) (by rfl) (by intro w' hS; go_simp) (by assumption) ?_
  try simp only [Act.put, List.setIfInBounds_toArray, List.set_cons_zero, List.set_cons_succ]
  refine held_take 7 (.slice none 0 0) rfl (by kernel_rfl) (by kernel_rfl) (by kernel_rfl) (fun _ _ _ h => h) (by rfl) (by intro w' hS; go_simp) (by assumption) ?_
  try simp only [Act.put, List.setIfInBounds_toArray, List.set_cons_zero, List.set_cons_succ]
  refine wpAnyH_done (by kernel_rfl) ?_ _
  obtain ⟨j0, j1, -, -⟩ := (J.out.kept bq2.out).see
  have f0 := F0.out _ (bq2.out)
  have f1 := F1.out _ (bq2.out)
  go_wp2_with fail
  refine (RR.out wq2 bq2.out).mono ?_
  rintro e W3 ⟨rfl, hb3⟩
  have BB := Lib.hid (bq2.out.trans (hb3.mono bq2.out.size))
  clear hb3 RR RW CL SK hHeld
  clear j0 j1 f0 f1
  obtain ⟨j0, j1, -, -⟩ := (J.out.kept BB.out).see
  have f0 := F0.out _ (BB.out)
  have f1 := F1.out _ (BB.out)
  go_wp2_with fail
  clear j0 j1 f0 f1
  go_loopw [72] (fun q wr => q = .int .i64 ((0 : Nat) : Int) ∧ Hid (∃ m, wr = W3.drewN m)) (fun _ _ => 0)
  case atStart => exact ⟨rfl, Lib.hid ⟨0, rfl⟩⟩
  case round =>
    obtain ⟨rfl, hw⟩ := hrel
    obtain ⟨m', hm⟩ := hw.out
    have kW := Lib.hid (show Below W3.heap.size W3 wr by rw [hm]; exact below_drewN' (Below.refl _ _) m')
    clear hm hw
    have bWj := Lib.hid (BB.out.trans (kW.out.mono BB.out.size))
    have bZ := Lib.hid (z.out.trans (bWj.out.mono z.out.size))
    obtain ⟨j0, j1, -, -⟩ := (J.out.kept bWj.out).see
    have f0 := F0.out _ (bWj.out)
    have f1 := F1.out _ (bWj.out)
    go_wp2_with fail
    clear j0 j1 f0 f1
    refine (awake06_any _).mono ?_
    rintro e w9 ⟨rfl, hb9⟩
    go_wp2_with fail
    go_ret
    exact ⟨rfl, bZ.out.trans (hb9.mono bZ.out.size)⟩

set_option maxRecDepth 100000 in
set_option maxHeartbeats 16000000 in
theorem denseRows_neg_big (t : TV) (i j : Int) (w : World) (h : t.At w) (hc : t.Cap) (hs1 : t.cl ≤ 400) (hm : matT t.ss t.cl = true) (hi : i < 0) (hj0 : ¬ j < 0) (hj : t.ss.getD 1 0 ≤ j) :
    Calls Try.prog 5 #[.agg #[.slice t.sa t.sl t.sc, .slice t.ca t.cl t.cc], .int .i64 i, .int .i64 j] w fun e w' => e = .returned (.bool true) ∧ Below w.heap.size w w' := by
  obtain ⟨m, n, hss, hcl, m1, m2, n1, n2, hr⟩ := matT_facts hm
  have hs2 := matT_len h hm
  have hj2 : (n : Int) ≤ j := by rw [hss] at hj; simpa using hj
  have hmn0 : m * n ≤ 400 := by omega
  have hm4 : m ≤ 400 := by have := Nat.mul_le_mul_left m n1; omega
  have hn4 : n ≤ 400 := by have := Nat.mul_le_mul_right n m1; omega
  obtain ⟨b, off, hba, hc0, hc1⟩ : ∃ b off, t.sa = some ⟨b, off, none⟩ ∧ w.cell? ⟨b, off, none⟩ = some (.int .i64 m) ∧ w.cell? ⟨b, off + 1, none⟩ = some (.int .i64 n) := by
    rcases h.1.2.2.2 with h4 | ⟨b, off, ha, hc⟩
    · omega
    · rw [hss] at hc
      exact ⟨b, off, ha, by simpa using hc 0 (by omega), by simpa using hc 1 (by omega)⟩
  have hC := h.2.1
  obtain ⟨cb, co, hca⟩ : ∃ cb co, t.ca = some ⟨cb, co, none⟩ := by
    rcases hC.2.2.2 with h4 | ⟨b, off, ha, hc⟩
    · have := Nat.mul_le_mul m1 n1; omega
    · exact ⟨b, off, ha⟩
  have RW := fun w1 (hb : Below w.heap.size w w1) => drow_no2 t i w1 (h.kept hb) hm (Or.inl hi)
  have CL := fun w1 (hb : Below w.heap.size w w1) => dcol_no2 t j w1 (h.kept hb) hm (Or.inr hj)
  have RR := fun w1 (hb : Below w.heap.size w w1) => rright_any t.sa t.sl t.sc t.ss t.ca t.cl t.cc w1 (h.kept hb).1 (by omega)
  rw [hr] at RR
  have CC0 := fun w1 (hb : Below w.heap.size w w1) => hC.kept hb
  have hcf := Lib.hid hC.2.2.1
  obtain ⟨cl, hcl2⟩ : ∃ cl, t.cl = cl := ⟨_, rfl⟩
  rw [hcl2] at RW CL RR CC0 hcl hs1
  rw [hba, hca, hs2] at RW CL RR
  rw [hca] at CC0
  rw [hba, hca, hs2, hcl2]
  obtain ⟨wB, hwB, J, z, -⟩ := grid_box w (.slice (some ⟨b, off, none⟩) 2 t.sc) (.slice (some ⟨cb, co, none⟩) cl t.cc)
  replace RW := Lib.hid (fun w1 (hb : Below wB.heap.size wB w1) => RW w1 (z.out.trans (hb.mono z.out.size)))
  replace CL := Lib.hid (fun w1 (hb : Below wB.heap.size wB w1) => CL w1 (z.out.trans (hb.mono z.out.size)))
  replace RR := Lib.hid (fun w1 (hb : Below wB.heap.size wB w1) => RR w1 (z.out.trans (hb.mono z.out.size)))
  have CC := Lib.hid (fun w1 (hb : Below wB.heap.size wB w1) => CC0 w1 (z.out.trans (hb.mono z.out.size)))
  have F0 := Lib.hid (fun w1 (hb : Below wB.heap.size wB w1) => cell_later hb (cell_later z.out hc0))
  have F1 := Lib.hid (fun w1 (hb : Below wB.heap.size wB w1) => cell_later hb (cell_later z.out hc1))
  have hL := Lib.hid hcl
  have hmn := Lib.hid hmn0
  have hcl4x := Lib.hid hs1
  obtain ⟨j0, j1, -, -⟩ := J.out.see
  have d1 : decide ((400 : Int) < (cl : Int)) = false := decide_eq_false (by omega)
  have d2 : decide (400 < cl) = false := decide_eq_false (by omega)
  have di1 : decide (i < 0) = true := decide_eq_true hi
  have dj1 : decide (j < 0) = false := decide_eq_false hj0
  have dj2 : decide ((n : Int) ≤ j) = true := decide_eq_true hj2
  clear hba hca hs2 hcl2 hc0 hc1 hC CC0 h hc hm hr hss hcl hmn0 m2 n2 hi hj hj0 hj2
  go_enter Try.func5, Try.ntmps5
  go_upto_region 1 with (fail)
  rw [hwB.out]
  go_wp2_with fail
  clear j0 j1
  have SK := Lib.hid (fun w' (hb : Below wB.heap.size wB w') => (show w'.cell? ⟨w.heap.size, 0, none⟩ = some (.slice (some ⟨b, off, none⟩) 2 t.sc) ∧ w'.cell? ⟨w.heap.size, 1, none⟩ = some (.slice (some ⟨cb, co, none⟩) cl t.cc) from ⟨(J.out.kept hb).see.1, (J.out.kept hb).see.2.1⟩))
  have t1 := Lib.hid (show Below wB.heap.size wB wB.drew from (Below.refl _ _).drew)
  go_upto_region 3 with (fail)
  refine wp_region_held_drew (S := fun w' => w'.cell? ⟨w.heap.size, 0, none⟩ = some (.slice (some ⟨b, off, none⟩) 2 t.sc) ∧ w'.cell? ⟨w.heap.size, 1, none⟩ = some (.slice (some ⟨cb, co, none⟩) cl t.cc)) (by kernel_rfl) (SK.out _ t1.out) (fun hHeld => ?_)
  refine held_take 0 (.agg #[.slice (some ⟨b, off, none⟩) 2 t.sc, .slice (some ⟨cb, co, none⟩) cl t.cc]) rfl (by kernel_rfl) (by kernel_rfl) (by kernel_rfl) (fun _ _ _ h => h) (by rfl) (by intro w' hS; go_simp) (by assumption) ?_
  try simp only [Act.put, List.setIfInBounds_toArray, List.set_cons_zero, List.set_cons_succ]
  refine held_take 1 (.int .i64 i) rfl (by kernel_rfl) (by kernel_rfl) (by kernel_rfl) (fun _ _ _ h => h) (by rfl) (by intro w' hS; go_simp) (by assumption) ?_
  try simp only [Act.put, List.setIfInBounds_toArray, List.set_cons_zero, List.set_cons_succ]
  refine held_take 3 (.agg #[.slice (some ⟨b, off, none⟩) 2 t.sc, .slice (some ⟨cb, co, none⟩) cl t.cc]) rfl (by kernel_rfl) (by kernel_rfl) (by kernel_rfl) (fun _ _ _ h => h) (by rfl) (by intro w' hS; go_simp) (by assumption) ?_
  try simp only [Act.put, List.setIfInBounds_toArray, List.set_cons_zero, List.set_cons_succ]
  refine held_take 4 (.int .i64 j) rfl (by kernel_rfl) (by kernel_rfl) (by kernel_rfl) (fun _ _ _ h => h) (by rfl) (by intro w' hS; go_simp) (by assumption) ?_
  try simp only [Act.put, List.setIfInBounds_toArray, List.set_cons_zero, List.set_cons_succ]
  refine held_call 2 (by kernel_rfl) rfl (by rfl) (fun K hK => ?_)
  go_simp
  refine (RW.out wB.drew t1.out).mono ?_
  rintro e wq1 ⟨rfl, hb⟩
  have bq1 := Lib.hid (t1.out.trans ((hb).mono t1.out.size))
  go_wp2_with fail
  refine hK.out _ _ (SK.out _ bq1.out) (fun hHeld => ?_)
  try simp only [Act.put, List.setIfInBounds_toArray, List.set_cons_zero, List.set_cons_succ]
  refine held_call 5 (by kernel_rfl) rfl (by rfl) (fun K hK => ?_)
  go_simp
  refine (CL.out wq1 bq1.out).mono ?_
  rintro e wq2 ⟨rfl, hb⟩
  have bq2 := Lib.hid (bq1.out.trans ((hb).mono bq1.out.size))
  have kkb := Lib.hid hb
  go_wp2_with fail
  refine hK.out _ _ (SK.out _ bq2.out) (fun hHeld => ?_)
  try simp only [Act.put, List.setIfInBounds_toArray, List.set_cons_zero, List.set_cons_succ]
  refine held_take 6 (.slice none 0 0) rfl (by kernel_rfl) (by kernel_rfl) (by kernel_rfl) (fun _ _ _ h => h) (by rfl) (by intro w' hS; go_simp) (by assumption) ?_
  try simp only [Act.put, List.setIfInBounds_toArray, List.set_cons_zero, List.set_cons_succ]
  refine held_take 7 (.slice none 0 0) rfl (by kernel_rfl) (by kernel_rfl) (by kernel_rfl) (fun _ _ _ h => h) (by rfl) (by intro w' hS; go_simp) (by assumption) ?_
  try simp only [Act.put, List.setIfInBounds_toArray, List.set_cons_zero, List.set_cons_succ]
  refine wpAnyH_done (by kernel_rfl) ?_ _
  obtain ⟨j0, j1, -, -⟩ := (J.out.kept bq2.out).see
  have f0 := F0.out _ (bq2.out)
  have f1 := F1.out _ (bq2.out)
  go_wp2_with fail
  refine (RR.out wq2 bq2.out).mono ?_
  rintro e W3 ⟨rfl, hb3⟩
  have BB := Lib.hid (bq2.out.trans (hb3.mono bq2.out.size))
  clear hb3 RR RW CL SK hHeld
  clear j0 j1 f0 f1
  obtain ⟨j0, j1, -, -⟩ := (J.out.kept BB.out).see
  have f0 := F0.out _ (BB.out)
  have f1 := F1.out _ (BB.out)
  go_wp2_with fail
  clear j0 j1 f0 f1
  go_loopw [72] (fun q wr => q = .int .i64 ((0 : Nat) : Int) ∧ Hid (∃ m, wr = W3.drewN m)) (fun _ _ => 0)
  case atStart => exact ⟨rfl, Lib.hid ⟨0, rfl⟩⟩
  case round =>
    obtain ⟨rfl, hw⟩ := hrel
    obtain ⟨m', hm⟩ := hw.out
    have kW := Lib.hid (show Below W3.heap.size W3 wr by rw [hm]; exact below_drewN' (Below.refl _ _) m')
    clear hm hw
    have bWj := Lib.hid (BB.out.trans (kW.out.mono BB.out.size))
    have bZ := Lib.hid (z.out.trans (bWj.out.mono z.out.size))
    obtain ⟨j0, j1, -, -⟩ := (J.out.kept bWj.out).see
    have f0 := F0.out _ (bWj.out)
    have f1 := F1.out _ (bWj.out)
    go_wp2_with fail
    clear j0 j1 f0 f1
    refine (awake06_any _).mono ?_
    rintro e w9 ⟨rfl, hb9⟩
    go_wp2_with fail
    go_ret
    exact ⟨rfl, bZ.out.trans (hb9.mono bZ.out.size)⟩

set_option maxRecDepth 100000 in
set_option maxHeartbeats 16000000 in
theorem denseRows_neg_ok (t : TV) (i j : Int) (w : World) (h : t.At w) (hc : t.Cap) (hs1 : t.cl ≤ 400) (hm : matT t.ss t.cl = true) (hi : i < 0) (jN : Nat) (hje : j = (jN : Int)) (hjN0 : (jN : Int) < t.ss.getD 1 0) :
    Calls Try.prog 5 #[.agg #[.slice t.sa t.sl t.sc, .slice t.ca t.cl t.cc], .int .i64 i, .int .i64 j] w fun e w' => e = .returned (.bool true) ∧ Below w.heap.size w w' := by
  obtain ⟨m, n, hss, hcl, m1, m2, n1, n2, hr⟩ := matT_facts hm
  have hs2 := matT_len h hm
  subst hje
  have hjN : jN < n := by rw [hss] at hjN0; simp at hjN0; exact hjN0
  have hmn0 : m * n ≤ 400 := by omega
  have hm4 : m ≤ 400 := by have := Nat.mul_le_mul_left m n1; omega
  have hn4 : n ≤ 400 := by have := Nat.mul_le_mul_right n m1; omega
  obtain ⟨b, off, hba, hc0, hc1⟩ : ∃ b off, t.sa = some ⟨b, off, none⟩ ∧ w.cell? ⟨b, off, none⟩ = some (.int .i64 m) ∧ w.cell? ⟨b, off + 1, none⟩ = some (.int .i64 n) := by
    rcases h.1.2.2.2 with h4 | ⟨b, off, ha, hc⟩
    · omega
    · rw [hss] at hc
      exact ⟨b, off, ha, by simpa using hc 0 (by omega), by simpa using hc 1 (by omega)⟩
  have hC := h.2.1
  obtain ⟨cb, co, hca⟩ : ∃ cb co, t.ca = some ⟨cb, co, none⟩ := by
    rcases hC.2.2.2 with h4 | ⟨b, off, ha, hc⟩
    · have := Nat.mul_le_mul m1 n1; omega
    · exact ⟨b, off, ha⟩
  have RW := fun w1 (hb : Below w.heap.size w w1) => drow_no2 t i w1 (h.kept hb) hm (Or.inl hi)
  have CL := fun w1 (hb : Below w.heap.size w w1) => dcol_ok t m n jN w1 (h.kept hb) hc hm hss hcl (by omega) hjN n1 m1 (by omega) (by omega)
  have RR := fun w1 (hb : Below w.heap.size w w1) => rright_any t.sa t.sl t.sc t.ss t.ca t.cl t.cc w1 (h.kept hb).1 (by omega)
  rw [hr] at RR
  have CC0 := fun w1 (hb : Below w.heap.size w w1) => hC.kept hb
  have hcf := Lib.hid hC.2.2.1
  obtain ⟨cl, hcl2⟩ : ∃ cl, t.cl = cl := ⟨_, rfl⟩
  rw [hcl2] at RW CL RR CC0 hcl hs1
  rw [hba, hca, hs2] at RW CL RR
  rw [hca] at CC0
  rw [hba, hca, hs2, hcl2]
  obtain ⟨wB, hwB, J, z, -⟩ := grid_box w (.slice (some ⟨b, off, none⟩) 2 t.sc) (.slice (some ⟨cb, co, none⟩) cl t.cc)
  replace RW := Lib.hid (fun w1 (hb : Below wB.heap.size wB w1) => RW w1 (z.out.trans (hb.mono z.out.size)))
  replace CL := Lib.hid (fun w1 (hb : Below wB.heap.size wB w1) => CL w1 (z.out.trans (hb.mono z.out.size)))
  replace RR := Lib.hid (fun w1 (hb : Below wB.heap.size wB w1) => RR w1 (z.out.trans (hb.mono z.out.size)))
  have CC := Lib.hid (fun w1 (hb : Below wB.heap.size wB w1) => CC0 w1 (z.out.trans (hb.mono z.out.size)))
  have F0 := Lib.hid (fun w1 (hb : Below wB.heap.size wB w1) => cell_later hb (cell_later z.out hc0))
  have F1 := Lib.hid (fun w1 (hb : Below wB.heap.size wB w1) => cell_later hb (cell_later z.out hc1))
  have hL := Lib.hid hcl
  have hmn := Lib.hid hmn0
  have hcl4x := Lib.hid hs1
  obtain ⟨j0, j1, -, -⟩ := J.out.see
  have d1 : decide ((400 : Int) < (cl : Int)) = false := decide_eq_false (by omega)
  have d2 : decide (400 < cl) = false := decide_eq_false (by omega)
  have di1 : decide (i < 0) = true := decide_eq_true hi
  have nj1 : ¬ (jN : Int) < 0 := by omega
  have dj1 : decide ((jN : Int) < 0) = false := decide_eq_false nj1
  have dj2 : decide ((n : Int) ≤ (jN : Int)) = false := decide_eq_false (by omega)
  have dj3 : decide (n ≤ jN) = false := decide_eq_false (by omega)
  clear hba hca hs2 hcl2 hc0 hc1 hC CC0 h hc hm hr hss hcl hmn0 m2 n2 hi hjN0
  go_enter Try.func5, Try.ntmps5
  go_upto_region 1 with (fail)
  rw [hwB.out]
  go_wp2_with fail
  clear j0 j1
  have SK := Lib.hid (fun w' (hb : Below wB.heap.size wB w') => (show w'.cell? ⟨w.heap.size, 0, none⟩ = some (.slice (some ⟨b, off, none⟩) 2 t.sc) ∧ w'.cell? ⟨w.heap.size, 1, none⟩ = some (.slice (some ⟨cb, co, none⟩) cl t.cc) from ⟨(J.out.kept hb).see.1, (J.out.kept hb).see.2.1⟩))
  have t1 := Lib.hid (show Below wB.heap.size wB wB.drew from (Below.refl _ _).drew)
  go_upto_region 3 with (fail)
  refine wp_region_held_drew (S := fun w' => w'.cell? ⟨w.heap.size, 0, none⟩ = some (.slice (some ⟨b, off, none⟩) 2 t.sc) ∧ w'.cell? ⟨w.heap.size, 1, none⟩ = some (.slice (some ⟨cb, co, none⟩) cl t.cc)) (by kernel_rfl) (SK.out _ t1.out) (fun hHeld => ?_)
  refine held_take 0 (.agg #[.slice (some ⟨b, off, none⟩) 2 t.sc, .slice (some ⟨cb, co, none⟩) cl t.cc]) rfl (by kernel_rfl) (by kernel_rfl) (by kernel_rfl) (fun _ _ _ h => h) (by rfl) (by intro w' hS; go_simp) (by assumption) ?_
  try simp only [Act.put, List.setIfInBounds_toArray, List.set_cons_zero, List.set_cons_succ]
  refine held_take 1 (.int .i64 i) rfl (by kernel_rfl) (by kernel_rfl) (by kernel_rfl) (fun _ _ _ h => h) (by rfl) (by intro w' hS; go_simp) (by assumption) ?_
  try simp only [Act.put, List.setIfInBounds_toArray, List.set_cons_zero, List.set_cons_succ]
  refine held_take 3 (.agg #[.slice (some ⟨b, off, none⟩) 2 t.sc, .slice (some ⟨cb, co, none⟩) cl t.cc]) rfl (by kernel_rfl) (by kernel_rfl) (by kernel_rfl) (fun _ _ _ h => h) (by rfl) (by intro w' hS; go_simp) (by assumption) ?_
  try simp only [Act.put, List.setIfInBounds_toArray, List.set_cons_zero, List.set_cons_succ]
  refine held_take 4 (.int .i64 jN) rfl (by kernel_rfl) (by kernel_rfl) (by kernel_rfl) (fun _ _ _ h => h) (by rfl) (by intro w' hS; go_simp) (by assumption) ?_
  try simp only [Act.put, List.setIfInBounds_toArray, List.set_cons_zero, List.set_cons_succ]
  refine held_call 2 (by kernel_rfl) rfl (by rfl) (fun K hK => ?_)
  go_simp
  refine (RW.out wB.drew t1.out).mono ?_
  rintro e wq1 ⟨rfl, hb⟩
  have bq1 := Lib.hid (t1.out.trans ((hb).mono t1.out.size))
  go_wp2_with fail
  refine hK.out _ _ (SK.out _ bq1.out) (fun hHeld => ?_)
  try simp only [Act.put, List.setIfInBounds_toArray, List.set_cons_zero, List.set_cons_succ]
  refine held_call 5 (by kernel_rfl) rfl (by rfl) (fun K hK => ?_)
  go_simp
  refine (CL.out wq1 bq1.out).mono ?_
  rintro e wq2 ⟨A2, pb, rfl, oc, hb⟩
  have bq2 := Lib.hid (bq1.out.trans ((hb).mono bq1.out.size))
  obtain ⟨gb, pb', hvb⟩ := Joins.ownsRow_form oc (by omega)
  simp only [Value.slice.injEq] at hvb
  obtain ⟨rfl, -, rfl⟩ := hvb
  have ib := Lib.hid (row_ints oc (show m ≤ 9223372036854775807 by omega) (colD_fits hcf.out n m jN))
  have kkb := Lib.hid hb
  clear oc
  go_wp2_with fail
  refine hK.out _ _ (SK.out _ bq2.out) (fun hHeld => ?_)
  try simp only [Act.put, List.setIfInBounds_toArray, List.set_cons_zero, List.set_cons_succ]
  refine held_take 6 (.slice none 0 0) rfl (by kernel_rfl) (by kernel_rfl) (by kernel_rfl) (fun _ _ _ h => h) (by rfl) (by intro w' hS; go_simp) (by assumption) ?_
  try simp only [Act.put, List.setIfInBounds_toArray, List.set_cons_zero, List.set_cons_succ]
  refine held_take 7 (.slice (some ⟨gb, 0, none⟩) m pb) rfl (by kernel_rfl) (by kernel_rfl) (by kernel_rfl) (fun _ _ _ h => h) (by rfl) (by intro w' hS; go_simp) (by assumption) ?_
  try simp only [Act.put, List.setIfInBounds_toArray, List.set_cons_zero, List.set_cons_succ]
  refine wpAnyH_done (by kernel_rfl) ?_ _
  obtain ⟨j0, j1, -, -⟩ := (J.out.kept bq2.out).see
  have f0 := F0.out _ (bq2.out)
  have f1 := F1.out _ (bq2.out)
  go_wp2_with fail
  refine (RR.out wq2 bq2.out).mono ?_
  rintro e W3 ⟨rfl, hb3⟩
  have BB := Lib.hid (bq2.out.trans (hb3.mono bq2.out.size))
  replace ib := Lib.hid (ib.out.kept hb3)
  clear hb3 RR RW CL SK hHeld
  clear j0 j1 f0 f1
  obtain ⟨j0, j1, -, -⟩ := (J.out.kept BB.out).see
  have f0 := F0.out _ (BB.out)
  have f1 := F1.out _ (BB.out)
  go_wp2_with fail
  clear j0 j1 f0 f1
  go_loopw [72] (fun q wr => q = .int .i64 ((0 : Nat) : Int) ∧ Hid (∃ m, wr = W3.drewN m)) (fun _ _ => 0)
  case atStart => exact ⟨rfl, Lib.hid ⟨0, rfl⟩⟩
  case round =>
    obtain ⟨rfl, hw⟩ := hrel
    obtain ⟨m', hm⟩ := hw.out
    have kW := Lib.hid (show Below W3.heap.size W3 wr by rw [hm]; exact below_drewN' (Below.refl _ _) m')
    clear hm hw
    have bWj := Lib.hid (BB.out.trans (kW.out.mono BB.out.size))
    obtain ⟨j0, j1, -, -⟩ := (J.out.kept bWj.out).see
    have f0 := F0.out _ (bWj.out)
    have f1 := F1.out _ (bWj.out)
    go_wp2_with fail
    clear j0 j1 f0 f1
    have ib2 := Lib.hid (ib.out.kept kW.out)
    obtain ⟨W5, hW5⟩ : ∃ W5, wr = W5 := ⟨_, rfl⟩
    rw [hW5] at bWj ib2 ⊢
    have BB2 := bWj
    clear bWj kW hW5
    go_loopw [117] (fun q wr => ∃ k : Nat, k ≤ m ∧ q = .int .i64 k ∧ Hid (∃ m, wr = W5.drewN m)) (fun q _ => m - (intOf q).toNat)
    case atStart => exact ⟨0, Nat.zero_le _, rfl, Lib.hid ⟨0, rfl⟩⟩
    case round =>
      obtain ⟨k, hk, rfl, hw⟩ := hrel
      obtain ⟨m', hm⟩ := hw.out
      have kW := Lib.hid (show Below W5.heap.size W5 wr by rw [hm]; exact below_drewN' (Below.refl _ _) m')
      have bW := Lib.hid (BB2.out.trans (kW.out.mono BB2.out.size))
      by_cases hlt : k < m
      · have ca := at_cell (ib2.out.kept kW.out) hlt
        rw [Nat.zero_add, colD_get hlt] at ca
        have hix : k * n + jN < m * n := cell_in hlt hjN
        have cw := at_cell (CC.out wr bW.out) (j := k * n + jN) (by rw [hL.out]; exact hix)
        have w1' : IntKind.i64.wrap ((k : Int) * (n : Int)) = ((k * n : Nat) : Int) := by
          have : (k : Int) * n = ((k * n : Nat) : Int) := by simp
          rw [this]; exact IntWalk.i64_in _ (by have := hmn.out; omega)
        have hix2 := hix
        obtain ⟨inn, hinn⟩ : ∃ inn, k * n = inn := ⟨_, rfl⟩
        rw [hinn] at ca cw w1' hix2
        have hcl4 : inn + jN < cl := by rw [hL.out]; exact hix2
        have hI1 : (0 : Int) ≤ (inn : Int) + (jN : Int) := by omega
        have hI2 : (inn : Int) + (jN : Int) < (cl : Int) := by omega
        have hI3 : ((inn : Int) + (jN : Int)).toNat = inn + jN := by omega
        have w2' : IntKind.i64.wrap ((inn : Int) + (jN : Int)) = (inn : Int) + (jN : Int) := IntWalk.i64_in _ (by have := hcl4x.out; omega)
        obtain ⟨xv, hxv⟩ : ∃ xv, t.cs.getD (inn + jN) 0 = xv := ⟨_, rfl⟩
        rw [hxv] at ca cw
        have hm' := Lib.hid hm
        clear hm hw hxv hinn hix hix2
        obtain ⟨j0, j1, -, -⟩ := (J.out.kept bW.out).see
        have f0 := F0.out _ (bW.out)
        have f1 := F1.out _ (bW.out)
        go_wp2_with fail
        go_quiet (fail)
        go_wp2_with fail
        go_roundw
        case rel => exact ⟨k + 1, by omega, by go_num, Lib.hid ⟨m' + nq, by rw [hm'.out, World.drewN_drewN]⟩⟩
        case measure => (simp [intOf]; try omega)
      · clear hm hw
        have bW9 := Lib.hid (BB2.out.trans (kW.out.mono BB2.out.size))
        have bZ := Lib.hid (z.out.trans (bW9.out.mono z.out.size))
        go_wp2_with fail
        refine (awake06_any _).mono ?_
        rintro e w9 ⟨rfl, hb9⟩
        go_wp2_with fail
        go_ret
        exact ⟨rfl, bZ.out.trans (hb9.mono bZ.out.size)⟩

set_option maxRecDepth 100000 in
set_option maxHeartbeats 16000000 in
theorem denseRows_big_neg (t : TV) (i j : Int) (w : World) (h : t.At w) (hc : t.Cap) (hs1 : t.cl ≤ 400) (hm : matT t.ss t.cl = true) (hi0 : ¬ i < 0) (hi : t.ss.getD 0 0 ≤ i) (hj : j < 0) :
    Calls Try.prog 5 #[.agg #[.slice t.sa t.sl t.sc, .slice t.ca t.cl t.cc], .int .i64 i, .int .i64 j] w fun e w' => e = .returned (.bool true) ∧ Below w.heap.size w w' := by
  obtain ⟨m, n, hss, hcl, m1, m2, n1, n2, hr⟩ := matT_facts hm
  have hs2 := matT_len h hm
  have hi2 : (m : Int) ≤ i := by rw [hss] at hi; simpa using hi
  have hmn0 : m * n ≤ 400 := by omega
  have hm4 : m ≤ 400 := by have := Nat.mul_le_mul_left m n1; omega
  have hn4 : n ≤ 400 := by have := Nat.mul_le_mul_right n m1; omega
  obtain ⟨b, off, hba, hc0, hc1⟩ : ∃ b off, t.sa = some ⟨b, off, none⟩ ∧ w.cell? ⟨b, off, none⟩ = some (.int .i64 m) ∧ w.cell? ⟨b, off + 1, none⟩ = some (.int .i64 n) := by
    rcases h.1.2.2.2 with h4 | ⟨b, off, ha, hc⟩
    · omega
    · rw [hss] at hc
      exact ⟨b, off, ha, by simpa using hc 0 (by omega), by simpa using hc 1 (by omega)⟩
  have hC := h.2.1
  obtain ⟨cb, co, hca⟩ : ∃ cb co, t.ca = some ⟨cb, co, none⟩ := by
    rcases hC.2.2.2 with h4 | ⟨b, off, ha, hc⟩
    · have := Nat.mul_le_mul m1 n1; omega
    · exact ⟨b, off, ha⟩
  have RW := fun w1 (hb : Below w.heap.size w w1) => drow_no2 t i w1 (h.kept hb) hm (Or.inr hi)
  have CL := fun w1 (hb : Below w.heap.size w w1) => dcol_no2 t j w1 (h.kept hb) hm (Or.inl hj)
  have RR := fun w1 (hb : Below w.heap.size w w1) => rright_any t.sa t.sl t.sc t.ss t.ca t.cl t.cc w1 (h.kept hb).1 (by omega)
  rw [hr] at RR
  have CC0 := fun w1 (hb : Below w.heap.size w w1) => hC.kept hb
  have hcf := Lib.hid hC.2.2.1
  obtain ⟨cl, hcl2⟩ : ∃ cl, t.cl = cl := ⟨_, rfl⟩
  rw [hcl2] at RW CL RR CC0 hcl hs1
  rw [hba, hca, hs2] at RW CL RR
  rw [hca] at CC0
  rw [hba, hca, hs2, hcl2]
  obtain ⟨wB, hwB, J, z, -⟩ := grid_box w (.slice (some ⟨b, off, none⟩) 2 t.sc) (.slice (some ⟨cb, co, none⟩) cl t.cc)
  replace RW := Lib.hid (fun w1 (hb : Below wB.heap.size wB w1) => RW w1 (z.out.trans (hb.mono z.out.size)))
  replace CL := Lib.hid (fun w1 (hb : Below wB.heap.size wB w1) => CL w1 (z.out.trans (hb.mono z.out.size)))
  replace RR := Lib.hid (fun w1 (hb : Below wB.heap.size wB w1) => RR w1 (z.out.trans (hb.mono z.out.size)))
  have CC := Lib.hid (fun w1 (hb : Below wB.heap.size wB w1) => CC0 w1 (z.out.trans (hb.mono z.out.size)))
  have F0 := Lib.hid (fun w1 (hb : Below wB.heap.size wB w1) => cell_later hb (cell_later z.out hc0))
  have F1 := Lib.hid (fun w1 (hb : Below wB.heap.size wB w1) => cell_later hb (cell_later z.out hc1))
  have hL := Lib.hid hcl
  have hmn := Lib.hid hmn0
  have hcl4x := Lib.hid hs1
  obtain ⟨j0, j1, -, -⟩ := J.out.see
  have d1 : decide ((400 : Int) < (cl : Int)) = false := decide_eq_false (by omega)
  have d2 : decide (400 < cl) = false := decide_eq_false (by omega)
  have di1 : decide (i < 0) = false := decide_eq_false hi0
  have di2 : decide ((m : Int) ≤ i) = true := decide_eq_true hi2
  have dj1 : decide (j < 0) = true := decide_eq_true hj
  clear hba hca hs2 hcl2 hc0 hc1 hC CC0 h hc hm hr hss hcl hmn0 m2 n2 hi hi0 hi2 hj
  go_enter Try.func5, Try.ntmps5
  go_upto_region 1 with (fail)
  rw [hwB.out]
  go_wp2_with fail
  clear j0 j1
  have SK := Lib.hid (fun w' (hb : Below wB.heap.size wB w') => (show w'.cell? ⟨w.heap.size, 0, none⟩ = some (.slice (some ⟨b, off, none⟩) 2 t.sc) ∧ w'.cell? ⟨w.heap.size, 1, none⟩ = some (.slice (some ⟨cb, co, none⟩) cl t.cc) from ⟨(J.out.kept hb).see.1, (J.out.kept hb).see.2.1⟩))
  have t1 := Lib.hid (show Below wB.heap.size wB wB.drew from (Below.refl _ _).drew)
  go_upto_region 3 with (fail)
  refine wp_region_held_drew (S := fun w' => w'.cell? ⟨w.heap.size, 0, none⟩ = some (.slice (some ⟨b, off, none⟩) 2 t.sc) ∧ w'.cell? ⟨w.heap.size, 1, none⟩ = some (.slice (some ⟨cb, co, none⟩) cl t.cc)) (by kernel_rfl) (SK.out _ t1.out) (fun hHeld => ?_)
  refine held_take 0 (.agg #[.slice (some ⟨b, off, none⟩) 2 t.sc, .slice (some ⟨cb, co, none⟩) cl t.cc]) rfl (by kernel_rfl) (by kernel_rfl) (by kernel_rfl) (fun _ _ _ h => h) (by rfl) (by intro w' hS; go_simp) (by assumption) ?_
  try simp only [Act.put, List.setIfInBounds_toArray, List.set_cons_zero, List.set_cons_succ]
  refine held_take 1 (.int .i64 i) rfl (by kernel_rfl) (by kernel_rfl) (by kernel_rfl) (fun _ _ _ h => h) (by rfl) (by intro w' hS; go_simp) (by assumption) ?_
  try simp only [Act.put, List.setIfInBounds_toArray, List.set_cons_zero, List.set_cons_succ]
  refine held_take 3 (.agg #[.slice (some ⟨b, off, none⟩) 2 t.sc, .slice (some ⟨cb, co, none⟩) cl t.cc]) rfl (by kernel_rfl) (by kernel_rfl) (by kernel_rfl) (fun _ _ _ h => h) (by rfl) (by intro w' hS; go_simp) (by assumption) ?_
  try simp only [Act.put, List.setIfInBounds_toArray, List.set_cons_zero, List.set_cons_succ]
  refine held_take 4 (.int .i64 j) rfl (by kernel_rfl) (by kernel_rfl) (by kernel_rfl) (fun _ _ _ h => h) (by rfl) (by intro w' hS; go_simp) (by assumption) ?_
  try simp only [Act.put, List.setIfInBounds_toArray, List.set_cons_zero, List.set_cons_succ]
  refine held_call 2 (by kernel_rfl) rfl (by rfl) (fun K hK => ?_)
  go_simp
  refine (RW.out wB.drew t1.out).mono ?_
  rintro e wq1 ⟨rfl, hb⟩
  have bq1 := Lib.hid (t1.out.trans ((hb).mono t1.out.size))
  go_wp2_with fail
  refine hK.out _ _ (SK.out _ bq1.out) (fun hHeld => ?_)
  try simp only [Act.put, List.setIfInBounds_toArray, List.set_cons_zero, List.set_cons_succ]
  refine held_call 5 (by kernel_rfl) rfl (by rfl) (fun K hK => ?_)
  go_simp
  refine (CL.out wq1 bq1.out).mono ?_
  rintro e wq2 ⟨rfl, hb⟩
  have bq2 := Lib.hid (bq1.out.trans ((hb).mono bq1.out.size))
  have kkb := Lib.hid hb
  go_wp2_with fail
  refine hK.out _ _ (SK.out _ bq2.out) (fun hHeld => ?_)
  try simp only [Act.put, List.setIfInBounds_toArray, List.set_cons_zero, List.set_cons_succ]
  refine held_take 6 (.slice none 0 0) rfl (by kernel_rfl) (by kernel_rfl) (by kernel_rfl) (fun _ _ _ h => h) (by rfl) (by intro w' hS; go_simp) (by assumption) ?_
  try simp only [Act.put, List.setIfInBounds_toArray, List.set_cons_zero, List.set_cons_succ]
  refine held_take 7 (.slice none 0 0) rfl (by kernel_rfl) (by kernel_rfl) (by kernel_rfl) (fun _ _ _ h => h) (by rfl) (by intro w' hS; go_simp) (by assumption) ?_
  try simp only [Act.put, List.setIfInBounds_toArray, List.set_cons_zero, List.set_cons_succ]
  refine wpAnyH_done (by kernel_rfl) ?_ _
  obtain ⟨j0, j1, -, -⟩ := (J.out.kept bq2.out).see
  have f0 := F0.out _ (bq2.out)
  have f1 := F1.out _ (bq2.out)
  go_wp2_with fail
  refine (RR.out wq2 bq2.out).mono ?_
  rintro e W3 ⟨rfl, hb3⟩
  have BB := Lib.hid (bq2.out.trans (hb3.mono bq2.out.size))
  clear hb3 RR RW CL SK hHeld
  clear j0 j1 f0 f1
  obtain ⟨j0, j1, -, -⟩ := (J.out.kept BB.out).see
  have f0 := F0.out _ (BB.out)
  have f1 := F1.out _ (BB.out)
  go_wp2_with fail
  clear j0 j1 f0 f1
  go_loopw [72] (fun q wr => q = .int .i64 ((0 : Nat) : Int) ∧ Hid (∃ m, wr = W3.drewN m)) (fun _ _ => 0)
  case atStart => exact ⟨rfl, Lib.hid ⟨0, rfl⟩⟩
  case round =>
    obtain ⟨rfl, hw⟩ := hrel
    obtain ⟨m', hm⟩ := hw.out
    have kW := Lib.hid (show Below W3.heap.size W3 wr by rw [hm]; exact below_drewN' (Below.refl _ _) m')
    clear hm hw
    have bWj := Lib.hid (BB.out.trans (kW.out.mono BB.out.size))
    have bZ := Lib.hid (z.out.trans (bWj.out.mono z.out.size))
    obtain ⟨j0, j1, -, -⟩ := (J.out.kept bWj.out).see
    have f0 := F0.out _ (bWj.out)
    have f1 := F1.out _ (bWj.out)
    go_wp2_with fail
    clear j0 j1 f0 f1
    refine (awake06_any _).mono ?_
    rintro e w9 ⟨rfl, hb9⟩
    go_wp2_with fail
    go_ret
    exact ⟨rfl, bZ.out.trans (hb9.mono bZ.out.size)⟩

set_option maxRecDepth 100000 in
set_option maxHeartbeats 16000000 in
theorem denseRows_big_big (t : TV) (i j : Int) (w : World) (h : t.At w) (hc : t.Cap) (hs1 : t.cl ≤ 400) (hm : matT t.ss t.cl = true) (hi0 : ¬ i < 0) (hi : t.ss.getD 0 0 ≤ i) (hj0 : ¬ j < 0) (hj : t.ss.getD 1 0 ≤ j) :
    Calls Try.prog 5 #[.agg #[.slice t.sa t.sl t.sc, .slice t.ca t.cl t.cc], .int .i64 i, .int .i64 j] w fun e w' => e = .returned (.bool true) ∧ Below w.heap.size w w' := by
  obtain ⟨m, n, hss, hcl, m1, m2, n1, n2, hr⟩ := matT_facts hm
  have hs2 := matT_len h hm
  have hi2 : (m : Int) ≤ i := by rw [hss] at hi; simpa using hi
  have hj2 : (n : Int) ≤ j := by rw [hss] at hj; simpa using hj
  have hmn0 : m * n ≤ 400 := by omega
  have hm4 : m ≤ 400 := by have := Nat.mul_le_mul_left m n1; omega
  have hn4 : n ≤ 400 := by have := Nat.mul_le_mul_right n m1; omega
  obtain ⟨b, off, hba, hc0, hc1⟩ : ∃ b off, t.sa = some ⟨b, off, none⟩ ∧ w.cell? ⟨b, off, none⟩ = some (.int .i64 m) ∧ w.cell? ⟨b, off + 1, none⟩ = some (.int .i64 n) := by
    rcases h.1.2.2.2 with h4 | ⟨b, off, ha, hc⟩
    · omega
    · rw [hss] at hc
      exact ⟨b, off, ha, by simpa using hc 0 (by omega), by simpa using hc 1 (by omega)⟩
  have hC := h.2.1
  obtain ⟨cb, co, hca⟩ : ∃ cb co, t.ca = some ⟨cb, co, none⟩ := by
    rcases hC.2.2.2 with h4 | ⟨b, off, ha, hc⟩
    · have := Nat.mul_le_mul m1 n1; omega
    · exact ⟨b, off, ha⟩
  have RW := fun w1 (hb : Below w.heap.size w w1) => drow_no2 t i w1 (h.kept hb) hm (Or.inr hi)
  have CL := fun w1 (hb : Below w.heap.size w w1) => dcol_no2 t j w1 (h.kept hb) hm (Or.inr hj)
  have RR := fun w1 (hb : Below w.heap.size w w1) => rright_any t.sa t.sl t.sc t.ss t.ca t.cl t.cc w1 (h.kept hb).1 (by omega)
  rw [hr] at RR
  have CC0 := fun w1 (hb : Below w.heap.size w w1) => hC.kept hb
  have hcf := Lib.hid hC.2.2.1
  obtain ⟨cl, hcl2⟩ : ∃ cl, t.cl = cl := ⟨_, rfl⟩
  rw [hcl2] at RW CL RR CC0 hcl hs1
  rw [hba, hca, hs2] at RW CL RR
  rw [hca] at CC0
  rw [hba, hca, hs2, hcl2]
  obtain ⟨wB, hwB, J, z, -⟩ := grid_box w (.slice (some ⟨b, off, none⟩) 2 t.sc) (.slice (some ⟨cb, co, none⟩) cl t.cc)
  replace RW := Lib.hid (fun w1 (hb : Below wB.heap.size wB w1) => RW w1 (z.out.trans (hb.mono z.out.size)))
  replace CL := Lib.hid (fun w1 (hb : Below wB.heap.size wB w1) => CL w1 (z.out.trans (hb.mono z.out.size)))
  replace RR := Lib.hid (fun w1 (hb : Below wB.heap.size wB w1) => RR w1 (z.out.trans (hb.mono z.out.size)))
  have CC := Lib.hid (fun w1 (hb : Below wB.heap.size wB w1) => CC0 w1 (z.out.trans (hb.mono z.out.size)))
  have F0 := Lib.hid (fun w1 (hb : Below wB.heap.size wB w1) => cell_later hb (cell_later z.out hc0))
  have F1 := Lib.hid (fun w1 (hb : Below wB.heap.size wB w1) => cell_later hb (cell_later z.out hc1))
  have hL := Lib.hid hcl
  have hmn := Lib.hid hmn0
  have hcl4x := Lib.hid hs1
  obtain ⟨j0, j1, -, -⟩ := J.out.see
  have d1 : decide ((400 : Int) < (cl : Int)) = false := decide_eq_false (by omega)
  have d2 : decide (400 < cl) = false := decide_eq_false (by omega)
  have di1 : decide (i < 0) = false := decide_eq_false hi0
  have di2 : decide ((m : Int) ≤ i) = true := decide_eq_true hi2
  have dj1 : decide (j < 0) = false := decide_eq_false hj0
  have dj2 : decide ((n : Int) ≤ j) = true := decide_eq_true hj2
  clear hba hca hs2 hcl2 hc0 hc1 hC CC0 h hc hm hr hss hcl hmn0 m2 n2 hi hi0 hi2 hj hj0 hj2
  go_enter Try.func5, Try.ntmps5
  go_upto_region 1 with (fail)
  rw [hwB.out]
  go_wp2_with fail
  clear j0 j1
  have SK := Lib.hid (fun w' (hb : Below wB.heap.size wB w') => (show w'.cell? ⟨w.heap.size, 0, none⟩ = some (.slice (some ⟨b, off, none⟩) 2 t.sc) ∧ w'.cell? ⟨w.heap.size, 1, none⟩ = some (.slice (some ⟨cb, co, none⟩) cl t.cc) from ⟨(J.out.kept hb).see.1, (J.out.kept hb).see.2.1⟩))
  have t1 := Lib.hid (show Below wB.heap.size wB wB.drew from (Below.refl _ _).drew)
  go_upto_region 3 with (fail)
  refine wp_region_held_drew (S := fun w' => w'.cell? ⟨w.heap.size, 0, none⟩ = some (.slice (some ⟨b, off, none⟩) 2 t.sc) ∧ w'.cell? ⟨w.heap.size, 1, none⟩ = some (.slice (some ⟨cb, co, none⟩) cl t.cc)) (by kernel_rfl) (SK.out _ t1.out) (fun hHeld => ?_)
  refine held_take 0 (.agg #[.slice (some ⟨b, off, none⟩) 2 t.sc, .slice (some ⟨cb, co, none⟩) cl t.cc]) rfl (by kernel_rfl) (by kernel_rfl) (by kernel_rfl) (fun _ _ _ h => h) (by rfl) (by intro w' hS; go_simp) (by assumption) ?_
  try simp only [Act.put, List.setIfInBounds_toArray, List.set_cons_zero, List.set_cons_succ]
  refine held_take 1 (.int .i64 i) rfl (by kernel_rfl) (by kernel_rfl) (by kernel_rfl) (fun _ _ _ h => h) (by rfl) (by intro w' hS; go_simp) (by assumption) ?_
  try simp only [Act.put, List.setIfInBounds_toArray, List.set_cons_zero, List.set_cons_succ]
  refine held_take 3 (.agg #[.slice (some ⟨b, off, none⟩) 2 t.sc, .slice (some ⟨cb, co, none⟩) cl t.cc]) rfl (by kernel_rfl) (by kernel_rfl) (by kernel_rfl) (fun _ _ _ h => h) (by rfl) (by intro w' hS; go_simp) (by assumption) ?_
  try simp only [Act.put, List.setIfInBounds_toArray, List.set_cons_zero, List.set_cons_succ]
  refine held_take 4 (.int .i64 j) rfl (by kernel_rfl) (by kernel_rfl) (by kernel_rfl) (fun _ _ _ h => h) (by rfl) (by intro w' hS; go_simp) (by assumption) ?_
  try simp only [Act.put, List.setIfInBounds_toArray, List.set_cons_zero, List.set_cons_succ]
  refine held_call 2 (by kernel_rfl) rfl (by rfl) (fun K hK => ?_)
  go_simp
  refine (RW.out wB.drew t1.out).mono ?_
  rintro e wq1 ⟨rfl, hb⟩
  have bq1 := Lib.hid (t1.out.trans ((hb).mono t1.out.size))
  go_wp2_with fail
  refine hK.out _ _ (SK.out _ bq1.out) (fun hHeld => ?_)
  try simp only [Act.put, List.setIfInBounds_toArray, List.set_cons_zero, List.set_cons_succ]
  refine held_call 5 (by kernel_rfl) rfl (by rfl) (fun K hK => ?_)
  go_simp
  refine (CL.out wq1 bq1.out).mono ?_
  rintro e wq2 ⟨rfl, hb⟩
  have bq2 := Lib.hid (bq1.out.trans ((hb).mono bq1.out.size))
  have kkb := Lib.hid hb
  go_wp2_with fail
  refine hK.out _ _ (SK.out _ bq2.out) (fun hHeld => ?_)
  try simp only [Act.put, List.setIfInBounds_toArray, List.set_cons_zero, List.set_cons_succ]
  refine held_take 6 (.slice none 0 0) rfl (by kernel_rfl) (by kernel_rfl) (by kernel_rfl) (fun _ _ _ h => h) (by rfl) (by intro w' hS; go_simp) (by assumption) ?_
  try simp only [Act.put, List.setIfInBounds_toArray, List.set_cons_zero, List.set_cons_succ]
  refine held_take 7 (.slice none 0 0) rfl (by kernel_rfl) (by kernel_rfl) (by kernel_rfl) (fun _ _ _ h => h) (by rfl) (by intro w' hS; go_simp) (by assumption) ?_
  try simp only [Act.put, List.setIfInBounds_toArray, List.set_cons_zero, List.set_cons_succ]
  refine wpAnyH_done (by kernel_rfl) ?_ _
  obtain ⟨j0, j1, -, -⟩ := (J.out.kept bq2.out).see
  have f0 := F0.out _ (bq2.out)
  have f1 := F1.out _ (bq2.out)
  go_wp2_with fail
  refine (RR.out wq2 bq2.out).mono ?_
  rintro e W3 ⟨rfl, hb3⟩
  have BB := Lib.hid (bq2.out.trans (hb3.mono bq2.out.size))
  clear hb3 RR RW CL SK hHeld
  clear j0 j1 f0 f1
  obtain ⟨j0, j1, -, -⟩ := (J.out.kept BB.out).see
  have f0 := F0.out _ (BB.out)
  have f1 := F1.out _ (BB.out)
  go_wp2_with fail
  clear j0 j1 f0 f1
  go_loopw [72] (fun q wr => q = .int .i64 ((0 : Nat) : Int) ∧ Hid (∃ m, wr = W3.drewN m)) (fun _ _ => 0)
  case atStart => exact ⟨rfl, Lib.hid ⟨0, rfl⟩⟩
  case round =>
    obtain ⟨rfl, hw⟩ := hrel
    obtain ⟨m', hm⟩ := hw.out
    have kW := Lib.hid (show Below W3.heap.size W3 wr by rw [hm]; exact below_drewN' (Below.refl _ _) m')
    clear hm hw
    have bWj := Lib.hid (BB.out.trans (kW.out.mono BB.out.size))
    have bZ := Lib.hid (z.out.trans (bWj.out.mono z.out.size))
    obtain ⟨j0, j1, -, -⟩ := (J.out.kept bWj.out).see
    have f0 := F0.out _ (bWj.out)
    have f1 := F1.out _ (bWj.out)
    go_wp2_with fail
    clear j0 j1 f0 f1
    refine (awake06_any _).mono ?_
    rintro e w9 ⟨rfl, hb9⟩
    go_wp2_with fail
    go_ret
    exact ⟨rfl, bZ.out.trans (hb9.mono bZ.out.size)⟩

set_option maxRecDepth 100000 in
set_option maxHeartbeats 16000000 in
theorem denseRows_big_ok (t : TV) (i j : Int) (w : World) (h : t.At w) (hc : t.Cap) (hs1 : t.cl ≤ 400) (hm : matT t.ss t.cl = true) (hi0 : ¬ i < 0) (hi : t.ss.getD 0 0 ≤ i) (jN : Nat) (hje : j = (jN : Int)) (hjN0 : (jN : Int) < t.ss.getD 1 0) :
    Calls Try.prog 5 #[.agg #[.slice t.sa t.sl t.sc, .slice t.ca t.cl t.cc], .int .i64 i, .int .i64 j] w fun e w' => e = .returned (.bool true) ∧ Below w.heap.size w w' := by
  obtain ⟨m, n, hss, hcl, m1, m2, n1, n2, hr⟩ := matT_facts hm
  have hs2 := matT_len h hm
  have hi2 : (m : Int) ≤ i := by rw [hss] at hi; simpa using hi
  subst hje
  have hjN : jN < n := by rw [hss] at hjN0; simp at hjN0; exact hjN0
  have hmn0 : m * n ≤ 400 := by omega
  have hm4 : m ≤ 400 := by have := Nat.mul_le_mul_left m n1; omega
  have hn4 : n ≤ 400 := by have := Nat.mul_le_mul_right n m1; omega
  obtain ⟨b, off, hba, hc0, hc1⟩ : ∃ b off, t.sa = some ⟨b, off, none⟩ ∧ w.cell? ⟨b, off, none⟩ = some (.int .i64 m) ∧ w.cell? ⟨b, off + 1, none⟩ = some (.int .i64 n) := by
    rcases h.1.2.2.2 with h4 | ⟨b, off, ha, hc⟩
    · omega
    · rw [hss] at hc
      exact ⟨b, off, ha, by simpa using hc 0 (by omega), by simpa using hc 1 (by omega)⟩
  have hC := h.2.1
  obtain ⟨cb, co, hca⟩ : ∃ cb co, t.ca = some ⟨cb, co, none⟩ := by
    rcases hC.2.2.2 with h4 | ⟨b, off, ha, hc⟩
    · have := Nat.mul_le_mul m1 n1; omega
    · exact ⟨b, off, ha⟩
  have RW := fun w1 (hb : Below w.heap.size w w1) => drow_no2 t i w1 (h.kept hb) hm (Or.inr hi)
  have CL := fun w1 (hb : Below w.heap.size w w1) => dcol_ok t m n jN w1 (h.kept hb) hc hm hss hcl (by omega) hjN n1 m1 (by omega) (by omega)
  have RR := fun w1 (hb : Below w.heap.size w w1) => rright_any t.sa t.sl t.sc t.ss t.ca t.cl t.cc w1 (h.kept hb).1 (by omega)
  rw [hr] at RR
  have CC0 := fun w1 (hb : Below w.heap.size w w1) => hC.kept hb
  have hcf := Lib.hid hC.2.2.1
  obtain ⟨cl, hcl2⟩ : ∃ cl, t.cl = cl := ⟨_, rfl⟩
  rw [hcl2] at RW CL RR CC0 hcl hs1
  rw [hba, hca, hs2] at RW CL RR
  rw [hca] at CC0
  rw [hba, hca, hs2, hcl2]
  obtain ⟨wB, hwB, J, z, -⟩ := grid_box w (.slice (some ⟨b, off, none⟩) 2 t.sc) (.slice (some ⟨cb, co, none⟩) cl t.cc)
  replace RW := Lib.hid (fun w1 (hb : Below wB.heap.size wB w1) => RW w1 (z.out.trans (hb.mono z.out.size)))
  replace CL := Lib.hid (fun w1 (hb : Below wB.heap.size wB w1) => CL w1 (z.out.trans (hb.mono z.out.size)))
  replace RR := Lib.hid (fun w1 (hb : Below wB.heap.size wB w1) => RR w1 (z.out.trans (hb.mono z.out.size)))
  have CC := Lib.hid (fun w1 (hb : Below wB.heap.size wB w1) => CC0 w1 (z.out.trans (hb.mono z.out.size)))
  have F0 := Lib.hid (fun w1 (hb : Below wB.heap.size wB w1) => cell_later hb (cell_later z.out hc0))
  have F1 := Lib.hid (fun w1 (hb : Below wB.heap.size wB w1) => cell_later hb (cell_later z.out hc1))
  have hL := Lib.hid hcl
  have hmn := Lib.hid hmn0
  have hcl4x := Lib.hid hs1
  obtain ⟨j0, j1, -, -⟩ := J.out.see
  have d1 : decide ((400 : Int) < (cl : Int)) = false := decide_eq_false (by omega)
  have d2 : decide (400 < cl) = false := decide_eq_false (by omega)
  have di1 : decide (i < 0) = false := decide_eq_false hi0
  have di2 : decide ((m : Int) ≤ i) = true := decide_eq_true hi2
  have nj1 : ¬ (jN : Int) < 0 := by omega
  have dj1 : decide ((jN : Int) < 0) = false := decide_eq_false nj1
  have dj2 : decide ((n : Int) ≤ (jN : Int)) = false := decide_eq_false (by omega)
  have dj3 : decide (n ≤ jN) = false := decide_eq_false (by omega)
  clear hba hca hs2 hcl2 hc0 hc1 hC CC0 h hc hm hr hss hcl hmn0 m2 n2 hi hi0 hi2 hjN0
  go_enter Try.func5, Try.ntmps5
  go_upto_region 1 with (fail)
  rw [hwB.out]
  go_wp2_with fail
  clear j0 j1
  have SK := Lib.hid (fun w' (hb : Below wB.heap.size wB w') => (show w'.cell? ⟨w.heap.size, 0, none⟩ = some (.slice (some ⟨b, off, none⟩) 2 t.sc) ∧ w'.cell? ⟨w.heap.size, 1, none⟩ = some (.slice (some ⟨cb, co, none⟩) cl t.cc) from ⟨(J.out.kept hb).see.1, (J.out.kept hb).see.2.1⟩))
  have t1 := Lib.hid (show Below wB.heap.size wB wB.drew from (Below.refl _ _).drew)
  go_upto_region 3 with (fail)
  refine wp_region_held_drew (S := fun w' => w'.cell? ⟨w.heap.size, 0, none⟩ = some (.slice (some ⟨b, off, none⟩) 2 t.sc) ∧ w'.cell? ⟨w.heap.size, 1, none⟩ = some (.slice (some ⟨cb, co, none⟩) cl t.cc)) (by kernel_rfl) (SK.out _ t1.out) (fun hHeld => ?_)
  refine held_take 0 (.agg #[.slice (some ⟨b, off, none⟩) 2 t.sc, .slice (some ⟨cb, co, none⟩) cl t.cc]) rfl (by kernel_rfl) (by kernel_rfl) (by kernel_rfl) (fun _ _ _ h => h) (by rfl) (by intro w' hS; go_simp) (by assumption) ?_
  try simp only [Act.put, List.setIfInBounds_toArray, List.set_cons_zero, List.set_cons_succ]
  refine held_take 1 (.int .i64 i) rfl (by kernel_rfl) (by kernel_rfl) (by kernel_rfl) (fun _ _ _ h => h) (by rfl) (by intro w' hS; go_simp) (by assumption) ?_
  try simp only [Act.put, List.setIfInBounds_toArray, List.set_cons_zero, List.set_cons_succ]
  refine held_take 3 (.agg #[.slice (some ⟨b, off, none⟩) 2 t.sc, .slice (some ⟨cb, co, none⟩) cl t.cc]) rfl (by kernel_rfl) (by kernel_rfl) (by kernel_rfl) (fun _ _ _ h => h) (by rfl) (by intro w' hS; go_simp) (by assumption) ?_
  try simp only [Act.put, List.setIfInBounds_toArray, List.set_cons_zero, List.set_cons_succ]
  refine held_take 4 (.int .i64 jN) rfl (by kernel_rfl) (by kernel_rfl) (by kernel_rfl) (fun _ _ _ h => h) (by rfl) (by intro w' hS; go_simp) (by assumption) ?_
  try simp only [Act.put, List.setIfInBounds_toArray, List.set_cons_zero, List.set_cons_succ]
  refine held_call 2 (by kernel_rfl) rfl (by rfl) (fun K hK => ?_)
  go_simp
  refine (RW.out wB.drew t1.out).mono ?_
  rintro e wq1 ⟨rfl, hb⟩
  have bq1 := Lib.hid (t1.out.trans ((hb).mono t1.out.size))
  go_wp2_with fail
  refine hK.out _ _ (SK.out _ bq1.out) (fun hHeld => ?_)
  try simp only [Act.put, List.setIfInBounds_toArray, List.set_cons_zero, List.set_cons_succ]
  refine held_call 5 (by kernel_rfl) rfl (by rfl) (fun K hK => ?_)
  go_simp
  refine (CL.out wq1 bq1.out).mono ?_
  rintro e wq2 ⟨A2, pb, rfl, oc, hb⟩
  have bq2 := Lib.hid (bq1.out.trans ((hb).mono bq1.out.size))
  obtain ⟨gb, pb', hvb⟩ := Joins.ownsRow_form oc (by omega)
  simp only [Value.slice.injEq] at hvb
  obtain ⟨rfl, -, rfl⟩ := hvb
  have ib := Lib.hid (row_ints oc (show m ≤ 9223372036854775807 by omega) (colD_fits hcf.out n m jN))
  have kkb := Lib.hid hb
  clear oc
  go_wp2_with fail
  refine hK.out _ _ (SK.out _ bq2.out) (fun hHeld => ?_)
  try simp only [Act.put, List.setIfInBounds_toArray, List.set_cons_zero, List.set_cons_succ]
  refine held_take 6 (.slice none 0 0) rfl (by kernel_rfl) (by kernel_rfl) (by kernel_rfl) (fun _ _ _ h => h) (by rfl) (by intro w' hS; go_simp) (by assumption) ?_
  try simp only [Act.put, List.setIfInBounds_toArray, List.set_cons_zero, List.set_cons_succ]
  refine held_take 7 (.slice (some ⟨gb, 0, none⟩) m pb) rfl (by kernel_rfl) (by kernel_rfl) (by kernel_rfl) (fun _ _ _ h => h) (by rfl) (by intro w' hS; go_simp) (by assumption) ?_
  try simp only [Act.put, List.setIfInBounds_toArray, List.set_cons_zero, List.set_cons_succ]
  refine wpAnyH_done (by kernel_rfl) ?_ _
  obtain ⟨j0, j1, -, -⟩ := (J.out.kept bq2.out).see
  have f0 := F0.out _ (bq2.out)
  have f1 := F1.out _ (bq2.out)
  go_wp2_with fail
  refine (RR.out wq2 bq2.out).mono ?_
  rintro e W3 ⟨rfl, hb3⟩
  have BB := Lib.hid (bq2.out.trans (hb3.mono bq2.out.size))
  replace ib := Lib.hid (ib.out.kept hb3)
  clear hb3 RR RW CL SK hHeld
  clear j0 j1 f0 f1
  obtain ⟨j0, j1, -, -⟩ := (J.out.kept BB.out).see
  have f0 := F0.out _ (BB.out)
  have f1 := F1.out _ (BB.out)
  go_wp2_with fail
  clear j0 j1 f0 f1
  go_loopw [72] (fun q wr => q = .int .i64 ((0 : Nat) : Int) ∧ Hid (∃ m, wr = W3.drewN m)) (fun _ _ => 0)
  case atStart => exact ⟨rfl, Lib.hid ⟨0, rfl⟩⟩
  case round =>
    obtain ⟨rfl, hw⟩ := hrel
    obtain ⟨m', hm⟩ := hw.out
    have kW := Lib.hid (show Below W3.heap.size W3 wr by rw [hm]; exact below_drewN' (Below.refl _ _) m')
    clear hm hw
    have bWj := Lib.hid (BB.out.trans (kW.out.mono BB.out.size))
    obtain ⟨j0, j1, -, -⟩ := (J.out.kept bWj.out).see
    have f0 := F0.out _ (bWj.out)
    have f1 := F1.out _ (bWj.out)
    go_wp2_with fail
    clear j0 j1 f0 f1
    have ib2 := Lib.hid (ib.out.kept kW.out)
    obtain ⟨W5, hW5⟩ : ∃ W5, wr = W5 := ⟨_, rfl⟩
    rw [hW5] at bWj ib2 ⊢
    have BB2 := bWj
    clear bWj kW hW5
    go_loopw [117] (fun q wr => ∃ k : Nat, k ≤ m ∧ q = .int .i64 k ∧ Hid (∃ m, wr = W5.drewN m)) (fun q _ => m - (intOf q).toNat)
    case atStart => exact ⟨0, Nat.zero_le _, rfl, Lib.hid ⟨0, rfl⟩⟩
    case round =>
      obtain ⟨k, hk, rfl, hw⟩ := hrel
      obtain ⟨m', hm⟩ := hw.out
      have kW := Lib.hid (show Below W5.heap.size W5 wr by rw [hm]; exact below_drewN' (Below.refl _ _) m')
      have bW := Lib.hid (BB2.out.trans (kW.out.mono BB2.out.size))
      by_cases hlt : k < m
      · have ca := at_cell (ib2.out.kept kW.out) hlt
        rw [Nat.zero_add, colD_get hlt] at ca
        have hix : k * n + jN < m * n := cell_in hlt hjN
        have cw := at_cell (CC.out wr bW.out) (j := k * n + jN) (by rw [hL.out]; exact hix)
        have w1' : IntKind.i64.wrap ((k : Int) * (n : Int)) = ((k * n : Nat) : Int) := by
          have : (k : Int) * n = ((k * n : Nat) : Int) := by simp
          rw [this]; exact IntWalk.i64_in _ (by have := hmn.out; omega)
        have hix2 := hix
        obtain ⟨inn, hinn⟩ : ∃ inn, k * n = inn := ⟨_, rfl⟩
        rw [hinn] at ca cw w1' hix2
        have hcl4 : inn + jN < cl := by rw [hL.out]; exact hix2
        have hI1 : (0 : Int) ≤ (inn : Int) + (jN : Int) := by omega
        have hI2 : (inn : Int) + (jN : Int) < (cl : Int) := by omega
        have hI3 : ((inn : Int) + (jN : Int)).toNat = inn + jN := by omega
        have w2' : IntKind.i64.wrap ((inn : Int) + (jN : Int)) = (inn : Int) + (jN : Int) := IntWalk.i64_in _ (by have := hcl4x.out; omega)
        obtain ⟨xv, hxv⟩ : ∃ xv, t.cs.getD (inn + jN) 0 = xv := ⟨_, rfl⟩
        rw [hxv] at ca cw
        have hm' := Lib.hid hm
        clear hm hw hxv hinn hix hix2
        obtain ⟨j0, j1, -, -⟩ := (J.out.kept bW.out).see
        have f0 := F0.out _ (bW.out)
        have f1 := F1.out _ (bW.out)
        go_wp2_with fail
        go_quiet (fail)
        go_wp2_with fail
        go_roundw
        case rel => exact ⟨k + 1, by omega, by go_num, Lib.hid ⟨m' + nq, by rw [hm'.out, World.drewN_drewN]⟩⟩
        case measure => (simp [intOf]; try omega)
      · clear hm hw
        have bW9 := Lib.hid (BB2.out.trans (kW.out.mono BB2.out.size))
        have bZ := Lib.hid (z.out.trans (bW9.out.mono z.out.size))
        go_wp2_with fail
        refine (awake06_any _).mono ?_
        rintro e w9 ⟨rfl, hb9⟩
        go_wp2_with fail
        go_ret
        exact ⟨rfl, bZ.out.trans (hb9.mono bZ.out.size)⟩

set_option maxRecDepth 100000 in
set_option maxHeartbeats 16000000 in
theorem denseRows_ok_neg (t : TV) (i j : Int) (w : World) (h : t.At w) (hc : t.Cap) (hs1 : t.cl ≤ 400) (hm : matT t.ss t.cl = true) (iN : Nat) (hie : i = (iN : Int)) (hiN0 : (iN : Int) < t.ss.getD 0 0) (hj : j < 0) :
    Calls Try.prog 5 #[.agg #[.slice t.sa t.sl t.sc, .slice t.ca t.cl t.cc], .int .i64 i, .int .i64 j] w fun e w' => e = .returned (.bool true) ∧ Below w.heap.size w w' := by
  obtain ⟨m, n, hss, hcl, m1, m2, n1, n2, hr⟩ := matT_facts hm
  have hs2 := matT_len h hm
  subst hie
  have hiN : iN < m := by rw [hss] at hiN0; simp at hiN0; exact hiN0
  have hmn0 : m * n ≤ 400 := by omega
  have hm4 : m ≤ 400 := by have := Nat.mul_le_mul_left m n1; omega
  have hn4 : n ≤ 400 := by have := Nat.mul_le_mul_right n m1; omega
  obtain ⟨b, off, hba, hc0, hc1⟩ : ∃ b off, t.sa = some ⟨b, off, none⟩ ∧ w.cell? ⟨b, off, none⟩ = some (.int .i64 m) ∧ w.cell? ⟨b, off + 1, none⟩ = some (.int .i64 n) := by
    rcases h.1.2.2.2 with h4 | ⟨b, off, ha, hc⟩
    · omega
    · rw [hss] at hc
      exact ⟨b, off, ha, by simpa using hc 0 (by omega), by simpa using hc 1 (by omega)⟩
  have hC := h.2.1
  obtain ⟨cb, co, hca⟩ : ∃ cb co, t.ca = some ⟨cb, co, none⟩ := by
    rcases hC.2.2.2 with h4 | ⟨b, off, ha, hc⟩
    · have := Nat.mul_le_mul m1 n1; omega
    · exact ⟨b, off, ha⟩
  have RW := fun w1 (hb : Below w.heap.size w w1) => drow_ok t m n iN w1 (h.kept hb) hc hm hss hcl (by omega) hiN n1 m1 (by omega) (by omega)
  have CL := fun w1 (hb : Below w.heap.size w w1) => dcol_no2 t j w1 (h.kept hb) hm (Or.inl hj)
  have RR := fun w1 (hb : Below w.heap.size w w1) => rright_any t.sa t.sl t.sc t.ss t.ca t.cl t.cc w1 (h.kept hb).1 (by omega)
  rw [hr] at RR
  have CC0 := fun w1 (hb : Below w.heap.size w w1) => hC.kept hb
  have hcf := Lib.hid hC.2.2.1
  obtain ⟨cl, hcl2⟩ : ∃ cl, t.cl = cl := ⟨_, rfl⟩
  rw [hcl2] at RW CL RR CC0 hcl hs1
  rw [hba, hca, hs2] at RW CL RR
  rw [hca] at CC0
  rw [hba, hca, hs2, hcl2]
  obtain ⟨wB, hwB, J, z, -⟩ := grid_box w (.slice (some ⟨b, off, none⟩) 2 t.sc) (.slice (some ⟨cb, co, none⟩) cl t.cc)
  replace RW := Lib.hid (fun w1 (hb : Below wB.heap.size wB w1) => RW w1 (z.out.trans (hb.mono z.out.size)))
  replace CL := Lib.hid (fun w1 (hb : Below wB.heap.size wB w1) => CL w1 (z.out.trans (hb.mono z.out.size)))
  replace RR := Lib.hid (fun w1 (hb : Below wB.heap.size wB w1) => RR w1 (z.out.trans (hb.mono z.out.size)))
  have CC := Lib.hid (fun w1 (hb : Below wB.heap.size wB w1) => CC0 w1 (z.out.trans (hb.mono z.out.size)))
  have F0 := Lib.hid (fun w1 (hb : Below wB.heap.size wB w1) => cell_later hb (cell_later z.out hc0))
  have F1 := Lib.hid (fun w1 (hb : Below wB.heap.size wB w1) => cell_later hb (cell_later z.out hc1))
  have hL := Lib.hid hcl
  have hmn := Lib.hid hmn0
  have hcl4x := Lib.hid hs1
  obtain ⟨j0, j1, -, -⟩ := J.out.see
  have d1 : decide ((400 : Int) < (cl : Int)) = false := decide_eq_false (by omega)
  have d2 : decide (400 < cl) = false := decide_eq_false (by omega)
  have ni1 : ¬ (iN : Int) < 0 := by omega
  have di1 : decide ((iN : Int) < 0) = false := decide_eq_false ni1
  have di2 : decide ((m : Int) ≤ (iN : Int)) = false := decide_eq_false (by omega)
  have di3 : decide (m ≤ iN) = false := decide_eq_false (by omega)
  have dj1 : decide (j < 0) = true := decide_eq_true hj
  clear hba hca hs2 hcl2 hc0 hc1 hC CC0 h hc hm hr hss hcl hmn0 m2 n2 hiN0 hj
  go_enter Try.func5, Try.ntmps5
  go_upto_region 1 with (fail)
  rw [hwB.out]
  go_wp2_with fail
  clear j0 j1
  have SK := Lib.hid (fun w' (hb : Below wB.heap.size wB w') => (show w'.cell? ⟨w.heap.size, 0, none⟩ = some (.slice (some ⟨b, off, none⟩) 2 t.sc) ∧ w'.cell? ⟨w.heap.size, 1, none⟩ = some (.slice (some ⟨cb, co, none⟩) cl t.cc) from ⟨(J.out.kept hb).see.1, (J.out.kept hb).see.2.1⟩))
  have t1 := Lib.hid (show Below wB.heap.size wB wB.drew from (Below.refl _ _).drew)
  go_upto_region 3 with (fail)
  refine wp_region_held_drew (S := fun w' => w'.cell? ⟨w.heap.size, 0, none⟩ = some (.slice (some ⟨b, off, none⟩) 2 t.sc) ∧ w'.cell? ⟨w.heap.size, 1, none⟩ = some (.slice (some ⟨cb, co, none⟩) cl t.cc)) (by kernel_rfl) (SK.out _ t1.out) (fun hHeld => ?_)
  refine held_take 0 (.agg #[.slice (some ⟨b, off, none⟩) 2 t.sc, .slice (some ⟨cb, co, none⟩) cl t.cc]) rfl (by kernel_rfl) (by kernel_rfl) (by kernel_rfl) (fun _ _ _ h => h) (by rfl) (by intro w' hS; go_simp) (by assumption) ?_
  try simp only [Act.put, List.setIfInBounds_toArray, List.set_cons_zero, List.set_cons_succ]
  refine held_take 1 (.int .i64 iN) rfl (by kernel_rfl) (by kernel_rfl) (by kernel_rfl) (fun _ _ _ h => h) (by rfl) (by intro w' hS; go_simp) (by assumption) ?_
  try simp only [Act.put, List.setIfInBounds_toArray, List.set_cons_zero, List.set_cons_succ]
  refine held_take 3 (.agg #[.slice (some ⟨b, off, none⟩) 2 t.sc, .slice (some ⟨cb, co, none⟩) cl t.cc]) rfl (by kernel_rfl) (by kernel_rfl) (by kernel_rfl) (fun _ _ _ h => h) (by rfl) (by intro w' hS; go_simp) (by assumption) ?_
  try simp only [Act.put, List.setIfInBounds_toArray, List.set_cons_zero, List.set_cons_succ]
  refine held_take 4 (.int .i64 j) rfl (by kernel_rfl) (by kernel_rfl) (by kernel_rfl) (fun _ _ _ h => h) (by rfl) (by intro w' hS; go_simp) (by assumption) ?_
  try simp only [Act.put, List.setIfInBounds_toArray, List.set_cons_zero, List.set_cons_succ]
  refine held_call 2 (by kernel_rfl) rfl (by rfl) (fun K hK => ?_)
  go_simp
  refine (RW.out wB.drew t1.out).mono ?_
  rintro e wq1 ⟨A1, pa, rfl, oc, hb⟩
  have bq1 := Lib.hid (t1.out.trans ((hb).mono t1.out.size))
  obtain ⟨ga, pa', hva⟩ := Joins.ownsRow_form oc (by omega)
  simp only [Value.slice.injEq] at hva
  obtain ⟨rfl, -, rfl⟩ := hva
  have ia := Lib.hid (row_ints oc (show n ≤ 9223372036854775807 by omega) (rowD_fits hcf.out n iN))
  have kka := Lib.hid hb
  clear oc
  go_wp2_with fail
  refine hK.out _ _ (SK.out _ bq1.out) (fun hHeld => ?_)
  try simp only [Act.put, List.setIfInBounds_toArray, List.set_cons_zero, List.set_cons_succ]
  refine held_call 5 (by kernel_rfl) rfl (by rfl) (fun K hK => ?_)
  go_simp
  refine (CL.out wq1 bq1.out).mono ?_
  rintro e wq2 ⟨rfl, hb⟩
  have bq2 := Lib.hid (bq1.out.trans ((hb).mono bq1.out.size))
  have kkb := Lib.hid hb
  go_wp2_with fail
  refine hK.out _ _ (SK.out _ bq2.out) (fun hHeld => ?_)
  try simp only [Act.put, List.setIfInBounds_toArray, List.set_cons_zero, List.set_cons_succ]
  refine held_take 6 (.slice (some ⟨ga, 0, none⟩) n pa) rfl (by kernel_rfl) (by kernel_rfl) (by kernel_rfl) (fun _ _ _ h => h) (by rfl) (by intro w' hS; go_simp) (by assumption) ?_
  try simp only [Act.put, List.setIfInBounds_toArray, List.set_cons_zero, List.set_cons_succ]
  refine held_take 7 (.slice none 0 0) rfl (by kernel_rfl) (by kernel_rfl) (by kernel_rfl) (fun _ _ _ h => h) (by rfl) (by intro w' hS; go_simp) (by assumption) ?_
  try simp only [Act.put, List.setIfInBounds_toArray, List.set_cons_zero, List.set_cons_succ]
  refine wpAnyH_done (by kernel_rfl) ?_ _
  obtain ⟨j0, j1, -, -⟩ := (J.out.kept bq2.out).see
  have f0 := F0.out _ (bq2.out)
  have f1 := F1.out _ (bq2.out)
  go_wp2_with fail
  refine (RR.out wq2 bq2.out).mono ?_
  rintro e W3 ⟨rfl, hb3⟩
  have BB := Lib.hid (bq2.out.trans (hb3.mono bq2.out.size))
  replace ia := Lib.hid ((ia.out.kept kkb.out).kept hb3)
  clear hb3 RR RW CL SK hHeld
  clear j0 j1 f0 f1
  obtain ⟨j0, j1, -, -⟩ := (J.out.kept BB.out).see
  have f0 := F0.out _ (BB.out)
  have f1 := F1.out _ (BB.out)
  go_wp2_with fail
  clear j0 j1 f0 f1
  go_loopw [72] (fun q wr => ∃ k : Nat, k ≤ n ∧ q = .int .i64 k ∧ Hid (∃ m, wr = W3.drewN m)) (fun q _ => n - (intOf q).toNat)
  case atStart => exact ⟨0, Nat.zero_le _, rfl, Lib.hid ⟨0, rfl⟩⟩
  case round =>
    obtain ⟨k, hk, rfl, hw⟩ := hrel
    obtain ⟨m', hm⟩ := hw.out
    have kW := Lib.hid (show Below W3.heap.size W3 wr by rw [hm]; exact below_drewN' (Below.refl _ _) m')
    have bW := Lib.hid (BB.out.trans (kW.out.mono BB.out.size))
    by_cases hlt : k < n
    · have ca := at_cell (ia.out.kept kW.out) hlt
      rw [Nat.zero_add, rowD_get hlt] at ca
      have hix : iN * n + k < m * n := cell_in hiN hlt
      have cw := at_cell (CC.out wr bW.out) (j := iN * n + k) (by rw [hL.out]; exact hix)
      have w1' : IntKind.i64.wrap ((iN : Int) * (n : Int)) = ((iN * n : Nat) : Int) := by
        have : (iN : Int) * n = ((iN * n : Nat) : Int) := by simp
        rw [this]; exact IntWalk.i64_in _ (by have := hmn.out; omega)
      have hix2 := hix
      obtain ⟨inn, hinn⟩ : ∃ inn, iN * n = inn := ⟨_, rfl⟩
      rw [hinn] at ca cw w1' hix2
      have hcl4 : inn + k < cl := by rw [hL.out]; exact hix2
      have hI1 : (0 : Int) ≤ (inn : Int) + (k : Int) := by omega
      have hI2 : (inn : Int) + (k : Int) < (cl : Int) := by omega
      have hI3 : ((inn : Int) + (k : Int)).toNat = inn + k := by omega
      have w2' : IntKind.i64.wrap ((inn : Int) + (k : Int)) = (inn : Int) + (k : Int) := IntWalk.i64_in _ (by have := hcl4x.out; omega)
      obtain ⟨xv, hxv⟩ : ∃ xv, t.cs.getD (inn + k) 0 = xv := ⟨_, rfl⟩
      rw [hxv] at ca cw
      have hm' := Lib.hid hm
      clear hm hw hxv hinn hix hix2
      obtain ⟨j0, j1, -, -⟩ := (J.out.kept bW.out).see
      have f0 := F0.out _ (bW.out)
      have f1 := F1.out _ (bW.out)
      go_wp2_with fail
      go_quiet (fail)
      go_wp2_with fail
      go_roundw
      case rel => exact ⟨k + 1, by omega, by go_num, Lib.hid ⟨m' + nq, by rw [hm'.out, World.drewN_drewN]⟩⟩
      case measure => (simp [intOf]; try omega)
    · clear hm hw
      have bWj := Lib.hid (BB.out.trans (kW.out.mono BB.out.size))
      have bZ := Lib.hid (z.out.trans (bWj.out.mono z.out.size))
      obtain ⟨j0, j1, -, -⟩ := (J.out.kept bWj.out).see
      have f0 := F0.out _ (bWj.out)
      have f1 := F1.out _ (bWj.out)
      go_wp2_with fail
      clear j0 j1 f0 f1
      refine (awake06_any _).mono ?_
      rintro e w9 ⟨rfl, hb9⟩
      go_wp2_with fail
      go_ret
      exact ⟨rfl, bZ.out.trans (hb9.mono bZ.out.size)⟩

set_option maxRecDepth 100000 in
set_option maxHeartbeats 16000000 in
theorem denseRows_ok_big (t : TV) (i j : Int) (w : World) (h : t.At w) (hc : t.Cap) (hs1 : t.cl ≤ 400) (hm : matT t.ss t.cl = true) (iN : Nat) (hie : i = (iN : Int)) (hiN0 : (iN : Int) < t.ss.getD 0 0) (hj0 : ¬ j < 0) (hj : t.ss.getD 1 0 ≤ j) :
    Calls Try.prog 5 #[.agg #[.slice t.sa t.sl t.sc, .slice t.ca t.cl t.cc], .int .i64 i, .int .i64 j] w fun e w' => e = .returned (.bool true) ∧ Below w.heap.size w w' := by
  obtain ⟨m, n, hss, hcl, m1, m2, n1, n2, hr⟩ := matT_facts hm
  have hs2 := matT_len h hm
  subst hie
  have hiN : iN < m := by rw [hss] at hiN0; simp at hiN0; exact hiN0
  have hj2 : (n : Int) ≤ j := by rw [hss] at hj; simpa using hj
  have hmn0 : m * n ≤ 400 := by omega
  have hm4 : m ≤ 400 := by have := Nat.mul_le_mul_left m n1; omega
  have hn4 : n ≤ 400 := by have := Nat.mul_le_mul_right n m1; omega
  obtain ⟨b, off, hba, hc0, hc1⟩ : ∃ b off, t.sa = some ⟨b, off, none⟩ ∧ w.cell? ⟨b, off, none⟩ = some (.int .i64 m) ∧ w.cell? ⟨b, off + 1, none⟩ = some (.int .i64 n) := by
    rcases h.1.2.2.2 with h4 | ⟨b, off, ha, hc⟩
    · omega
    · rw [hss] at hc
      exact ⟨b, off, ha, by simpa using hc 0 (by omega), by simpa using hc 1 (by omega)⟩
  have hC := h.2.1
  obtain ⟨cb, co, hca⟩ : ∃ cb co, t.ca = some ⟨cb, co, none⟩ := by
    rcases hC.2.2.2 with h4 | ⟨b, off, ha, hc⟩
    · have := Nat.mul_le_mul m1 n1; omega
    · exact ⟨b, off, ha⟩
  have RW := fun w1 (hb : Below w.heap.size w w1) => drow_ok t m n iN w1 (h.kept hb) hc hm hss hcl (by omega) hiN n1 m1 (by omega) (by omega)
  have CL := fun w1 (hb : Below w.heap.size w w1) => dcol_no2 t j w1 (h.kept hb) hm (Or.inr hj)
  have RR := fun w1 (hb : Below w.heap.size w w1) => rright_any t.sa t.sl t.sc t.ss t.ca t.cl t.cc w1 (h.kept hb).1 (by omega)
  rw [hr] at RR
  have CC0 := fun w1 (hb : Below w.heap.size w w1) => hC.kept hb
  have hcf := Lib.hid hC.2.2.1
  obtain ⟨cl, hcl2⟩ : ∃ cl, t.cl = cl := ⟨_, rfl⟩
  rw [hcl2] at RW CL RR CC0 hcl hs1
  rw [hba, hca, hs2] at RW CL RR
  rw [hca] at CC0
  rw [hba, hca, hs2, hcl2]
  obtain ⟨wB, hwB, J, z, -⟩ := grid_box w (.slice (some ⟨b, off, none⟩) 2 t.sc) (.slice (some ⟨cb, co, none⟩) cl t.cc)
  replace RW := Lib.hid (fun w1 (hb : Below wB.heap.size wB w1) => RW w1 (z.out.trans (hb.mono z.out.size)))
  replace CL := Lib.hid (fun w1 (hb : Below wB.heap.size wB w1) => CL w1 (z.out.trans (hb.mono z.out.size)))
  replace RR := Lib.hid (fun w1 (hb : Below wB.heap.size wB w1) => RR w1 (z.out.trans (hb.mono z.out.size)))
  have CC := Lib.hid (fun w1 (hb : Below wB.heap.size wB w1) => CC0 w1 (z.out.trans (hb.mono z.out.size)))
  have F0 := Lib.hid (fun w1 (hb : Below wB.heap.size wB w1) => cell_later hb (cell_later z.out hc0))
  have F1 := Lib.hid (fun w1 (hb : Below wB.heap.size wB w1) => cell_later hb (cell_later z.out hc1))
  have hL := Lib.hid hcl
  have hmn := Lib.hid hmn0
  have hcl4x := Lib.hid hs1
  obtain ⟨j0, j1, -, -⟩ := J.out.see
  have d1 : decide ((400 : Int) < (cl : Int)) = false := decide_eq_false (by omega)
  have d2 : decide (400 < cl) = false := decide_eq_false (by omega)
  have ni1 : ¬ (iN : Int) < 0 := by omega
  have di1 : decide ((iN : Int) < 0) = false := decide_eq_false ni1
  have di2 : decide ((m : Int) ≤ (iN : Int)) = false := decide_eq_false (by omega)
  have di3 : decide (m ≤ iN) = false := decide_eq_false (by omega)
  have dj1 : decide (j < 0) = false := decide_eq_false hj0
  have dj2 : decide ((n : Int) ≤ j) = true := decide_eq_true hj2
  clear hba hca hs2 hcl2 hc0 hc1 hC CC0 h hc hm hr hss hcl hmn0 m2 n2 hiN0 hj hj0 hj2
  go_enter Try.func5, Try.ntmps5
  go_upto_region 1 with (fail)
  rw [hwB.out]
  go_wp2_with fail
  clear j0 j1
  have SK := Lib.hid (fun w' (hb : Below wB.heap.size wB w') => (show w'.cell? ⟨w.heap.size, 0, none⟩ = some (.slice (some ⟨b, off, none⟩) 2 t.sc) ∧ w'.cell? ⟨w.heap.size, 1, none⟩ = some (.slice (some ⟨cb, co, none⟩) cl t.cc) from ⟨(J.out.kept hb).see.1, (J.out.kept hb).see.2.1⟩))
  have t1 := Lib.hid (show Below wB.heap.size wB wB.drew from (Below.refl _ _).drew)
  go_upto_region 3 with (fail)
  refine wp_region_held_drew (S := fun w' => w'.cell? ⟨w.heap.size, 0, none⟩ = some (.slice (some ⟨b, off, none⟩) 2 t.sc) ∧ w'.cell? ⟨w.heap.size, 1, none⟩ = some (.slice (some ⟨cb, co, none⟩) cl t.cc)) (by kernel_rfl) (SK.out _ t1.out) (fun hHeld => ?_)
  refine held_take 0 (.agg #[.slice (some ⟨b, off, none⟩) 2 t.sc, .slice (some ⟨cb, co, none⟩) cl t.cc]) rfl (by kernel_rfl) (by kernel_rfl) (by kernel_rfl) (fun _ _ _ h => h) (by rfl) (by intro w' hS; go_simp) (by assumption) ?_
  try simp only [Act.put, List.setIfInBounds_toArray, List.set_cons_zero, List.set_cons_succ]
  refine held_take 1 (.int .i64 iN) rfl (by kernel_rfl) (by kernel_rfl) (by kernel_rfl) (fun _ _ _ h => h) (by rfl) (by intro w' hS; go_simp) (by assumption) ?_
  try simp only [Act.put, List.setIfInBounds_toArray, List.set_cons_zero, List.set_cons_succ]
  refine held_take 3 (.agg #[.slice (some ⟨b, off, none⟩) 2 t.sc, .slice (some ⟨cb, co, none⟩) cl t.cc]) rfl (by kernel_rfl) (by kernel_rfl) (by kernel_rfl) (fun _ _ _ h => h) (by rfl) (by intro w' hS; go_simp) (by assumption) ?_
  try simp only [Act.put, List.setIfInBounds_toArray, List.set_cons_zero, List.set_cons_succ]
  refine held_take 4 (.int .i64 j) rfl (by kernel_rfl) (by kernel_rfl) (by kernel_rfl) (fun _ _ _ h => h) (by rfl) (by intro w' hS; go_simp) (by assumption) ?_
  try simp only [Act.put, List.setIfInBounds_toArray, List.set_cons_zero, List.set_cons_succ]
  refine held_call 2 (by kernel_rfl) rfl (by rfl) (fun K hK => ?_)
  go_simp
  refine (RW.out wB.drew t1.out).mono ?_
  rintro e wq1 ⟨A1, pa, rfl, oc, hb⟩
  have bq1 := Lib.hid (t1.out.trans ((hb).mono t1.out.size))
  obtain ⟨ga, pa', hva⟩ := Joins.ownsRow_form oc (by omega)
  simp only [Value.slice.injEq] at hva
  obtain ⟨rfl, -, rfl⟩ := hva
  have ia := Lib.hid (row_ints oc (show n ≤ 9223372036854775807 by omega) (rowD_fits hcf.out n iN))
  have kka := Lib.hid hb
  clear oc
  go_wp2_with fail
  refine hK.out _ _ (SK.out _ bq1.out) (fun hHeld => ?_)
  try simp only [Act.put, List.setIfInBounds_toArray, List.set_cons_zero, List.set_cons_succ]
  refine held_call 5 (by kernel_rfl) rfl (by rfl) (fun K hK => ?_)
  go_simp
  refine (CL.out wq1 bq1.out).mono ?_
  rintro e wq2 ⟨rfl, hb⟩
  have bq2 := Lib.hid (bq1.out.trans ((hb).mono bq1.out.size))
  have kkb := Lib.hid hb
  go_wp2_with fail
  refine hK.out _ _ (SK.out _ bq2.out) (fun hHeld => ?_)
  try simp only [Act.put, List.setIfInBounds_toArray, List.set_cons_zero, List.set_cons_succ]
  refine held_take 6 (.slice (some ⟨ga, 0, none⟩) n pa) rfl (by kernel_rfl) (by kernel_rfl) (by kernel_rfl) (fun _ _ _ h => h) (by rfl) (by intro w' hS; go_simp) (by assumption) ?_
  try simp only [Act.put, List.setIfInBounds_toArray, List.set_cons_zero, List.set_cons_succ]
  refine held_take 7 (.slice none 0 0) rfl (by kernel_rfl) (by kernel_rfl) (by kernel_rfl) (fun _ _ _ h => h) (by rfl) (by intro w' hS; go_simp) (by assumption) ?_
  try simp only [Act.put, List.setIfInBounds_toArray, List.set_cons_zero, List.set_cons_succ]
  refine wpAnyH_done (by kernel_rfl) ?_ _
  obtain ⟨j0, j1, -, -⟩ := (J.out.kept bq2.out).see
  have f0 := F0.out _ (bq2.out)
  have f1 := F1.out _ (bq2.out)
  go_wp2_with fail
  refine (RR.out wq2 bq2.out).mono ?_
  rintro e W3 ⟨rfl, hb3⟩
  have BB := Lib.hid (bq2.out.trans (hb3.mono bq2.out.size))
  replace ia := Lib.hid ((ia.out.kept kkb.out).kept hb3)
  clear hb3 RR RW CL SK hHeld
  clear j0 j1 f0 f1
  obtain ⟨j0, j1, -, -⟩ := (J.out.kept BB.out).see
  have f0 := F0.out _ (BB.out)
  have f1 := F1.out _ (BB.out)
  go_wp2_with fail
  clear j0 j1 f0 f1
  go_loopw [72] (fun q wr => ∃ k : Nat, k ≤ n ∧ q = .int .i64 k ∧ Hid (∃ m, wr = W3.drewN m)) (fun q _ => n - (intOf q).toNat)
  case atStart => exact ⟨0, Nat.zero_le _, rfl, Lib.hid ⟨0, rfl⟩⟩
  case round =>
    obtain ⟨k, hk, rfl, hw⟩ := hrel
    obtain ⟨m', hm⟩ := hw.out
    have kW := Lib.hid (show Below W3.heap.size W3 wr by rw [hm]; exact below_drewN' (Below.refl _ _) m')
    have bW := Lib.hid (BB.out.trans (kW.out.mono BB.out.size))
    by_cases hlt : k < n
    · have ca := at_cell (ia.out.kept kW.out) hlt
      rw [Nat.zero_add, rowD_get hlt] at ca
      have hix : iN * n + k < m * n := cell_in hiN hlt
      have cw := at_cell (CC.out wr bW.out) (j := iN * n + k) (by rw [hL.out]; exact hix)
      have w1' : IntKind.i64.wrap ((iN : Int) * (n : Int)) = ((iN * n : Nat) : Int) := by
        have : (iN : Int) * n = ((iN * n : Nat) : Int) := by simp
        rw [this]; exact IntWalk.i64_in _ (by have := hmn.out; omega)
      have hix2 := hix
      obtain ⟨inn, hinn⟩ : ∃ inn, iN * n = inn := ⟨_, rfl⟩
      rw [hinn] at ca cw w1' hix2
      have hcl4 : inn + k < cl := by rw [hL.out]; exact hix2
      have hI1 : (0 : Int) ≤ (inn : Int) + (k : Int) := by omega
      have hI2 : (inn : Int) + (k : Int) < (cl : Int) := by omega
      have hI3 : ((inn : Int) + (k : Int)).toNat = inn + k := by omega
      have w2' : IntKind.i64.wrap ((inn : Int) + (k : Int)) = (inn : Int) + (k : Int) := IntWalk.i64_in _ (by have := hcl4x.out; omega)
      obtain ⟨xv, hxv⟩ : ∃ xv, t.cs.getD (inn + k) 0 = xv := ⟨_, rfl⟩
      rw [hxv] at ca cw
      have hm' := Lib.hid hm
      clear hm hw hxv hinn hix hix2
      obtain ⟨j0, j1, -, -⟩ := (J.out.kept bW.out).see
      have f0 := F0.out _ (bW.out)
      have f1 := F1.out _ (bW.out)
      go_wp2_with fail
      go_quiet (fail)
      go_wp2_with fail
      go_roundw
      case rel => exact ⟨k + 1, by omega, by go_num, Lib.hid ⟨m' + nq, by rw [hm'.out, World.drewN_drewN]⟩⟩
      case measure => (simp [intOf]; try omega)
    · clear hm hw
      have bWj := Lib.hid (BB.out.trans (kW.out.mono BB.out.size))
      have bZ := Lib.hid (z.out.trans (bWj.out.mono z.out.size))
      obtain ⟨j0, j1, -, -⟩ := (J.out.kept bWj.out).see
      have f0 := F0.out _ (bWj.out)
      have f1 := F1.out _ (bWj.out)
      go_wp2_with fail
      clear j0 j1 f0 f1
      refine (awake06_any _).mono ?_
      rintro e w9 ⟨rfl, hb9⟩
      go_wp2_with fail
      go_ret
      exact ⟨rfl, bZ.out.trans (hb9.mono bZ.out.size)⟩

set_option maxRecDepth 100000 in
set_option maxHeartbeats 16000000 in
theorem denseRows_ok_ok (t : TV) (i j : Int) (w : World) (h : t.At w) (hc : t.Cap) (hs1 : t.cl ≤ 400) (hm : matT t.ss t.cl = true) (iN : Nat) (hie : i = (iN : Int)) (hiN0 : (iN : Int) < t.ss.getD 0 0) (jN : Nat) (hje : j = (jN : Int)) (hjN0 : (jN : Int) < t.ss.getD 1 0) :
    Calls Try.prog 5 #[.agg #[.slice t.sa t.sl t.sc, .slice t.ca t.cl t.cc], .int .i64 i, .int .i64 j] w fun e w' => e = .returned (.bool true) ∧ Below w.heap.size w w' := by
  obtain ⟨m, n, hss, hcl, m1, m2, n1, n2, hr⟩ := matT_facts hm
  have hs2 := matT_len h hm
  subst hie
  have hiN : iN < m := by rw [hss] at hiN0; simp at hiN0; exact hiN0
  subst hje
  have hjN : jN < n := by rw [hss] at hjN0; simp at hjN0; exact hjN0
  have hmn0 : m * n ≤ 400 := by omega
  have hm4 : m ≤ 400 := by have := Nat.mul_le_mul_left m n1; omega
  have hn4 : n ≤ 400 := by have := Nat.mul_le_mul_right n m1; omega
  obtain ⟨b, off, hba, hc0, hc1⟩ : ∃ b off, t.sa = some ⟨b, off, none⟩ ∧ w.cell? ⟨b, off, none⟩ = some (.int .i64 m) ∧ w.cell? ⟨b, off + 1, none⟩ = some (.int .i64 n) := by
    rcases h.1.2.2.2 with h4 | ⟨b, off, ha, hc⟩
    · omega
    · rw [hss] at hc
      exact ⟨b, off, ha, by simpa using hc 0 (by omega), by simpa using hc 1 (by omega)⟩
  have hC := h.2.1
  obtain ⟨cb, co, hca⟩ : ∃ cb co, t.ca = some ⟨cb, co, none⟩ := by
    rcases hC.2.2.2 with h4 | ⟨b, off, ha, hc⟩
    · have := Nat.mul_le_mul m1 n1; omega
    · exact ⟨b, off, ha⟩
  have RW := fun w1 (hb : Below w.heap.size w w1) => drow_ok t m n iN w1 (h.kept hb) hc hm hss hcl (by omega) hiN n1 m1 (by omega) (by omega)
  have CL := fun w1 (hb : Below w.heap.size w w1) => dcol_ok t m n jN w1 (h.kept hb) hc hm hss hcl (by omega) hjN n1 m1 (by omega) (by omega)
  have RR := fun w1 (hb : Below w.heap.size w w1) => rright_any t.sa t.sl t.sc t.ss t.ca t.cl t.cc w1 (h.kept hb).1 (by omega)
  rw [hr] at RR
  have CC0 := fun w1 (hb : Below w.heap.size w w1) => hC.kept hb
  have hcf := Lib.hid hC.2.2.1
  obtain ⟨cl, hcl2⟩ : ∃ cl, t.cl = cl := ⟨_, rfl⟩
  rw [hcl2] at RW CL RR CC0 hcl hs1
  rw [hba, hca, hs2] at RW CL RR
  rw [hca] at CC0
  rw [hba, hca, hs2, hcl2]
  obtain ⟨wB, hwB, J, z, -⟩ := grid_box w (.slice (some ⟨b, off, none⟩) 2 t.sc) (.slice (some ⟨cb, co, none⟩) cl t.cc)
  replace RW := Lib.hid (fun w1 (hb : Below wB.heap.size wB w1) => RW w1 (z.out.trans (hb.mono z.out.size)))
  replace CL := Lib.hid (fun w1 (hb : Below wB.heap.size wB w1) => CL w1 (z.out.trans (hb.mono z.out.size)))
  replace RR := Lib.hid (fun w1 (hb : Below wB.heap.size wB w1) => RR w1 (z.out.trans (hb.mono z.out.size)))
  have CC := Lib.hid (fun w1 (hb : Below wB.heap.size wB w1) => CC0 w1 (z.out.trans (hb.mono z.out.size)))
  have F0 := Lib.hid (fun w1 (hb : Below wB.heap.size wB w1) => cell_later hb (cell_later z.out hc0))
  have F1 := Lib.hid (fun w1 (hb : Below wB.heap.size wB w1) => cell_later hb (cell_later z.out hc1))
  have hL := Lib.hid hcl
  have hmn := Lib.hid hmn0
  have hcl4x := Lib.hid hs1
  obtain ⟨j0, j1, -, -⟩ := J.out.see
  have d1 : decide ((400 : Int) < (cl : Int)) = false := decide_eq_false (by omega)
  have d2 : decide (400 < cl) = false := decide_eq_false (by omega)
  have ni1 : ¬ (iN : Int) < 0 := by omega
  have di1 : decide ((iN : Int) < 0) = false := decide_eq_false ni1
  have di2 : decide ((m : Int) ≤ (iN : Int)) = false := decide_eq_false (by omega)
  have di3 : decide (m ≤ iN) = false := decide_eq_false (by omega)
  have nj1 : ¬ (jN : Int) < 0 := by omega
  have dj1 : decide ((jN : Int) < 0) = false := decide_eq_false nj1
  have dj2 : decide ((n : Int) ≤ (jN : Int)) = false := decide_eq_false (by omega)
  have dj3 : decide (n ≤ jN) = false := decide_eq_false (by omega)
  clear hba hca hs2 hcl2 hc0 hc1 hC CC0 h hc hm hr hss hcl hmn0 m2 n2 hiN0 hjN0
  go_enter Try.func5, Try.ntmps5
  go_upto_region 1 with (fail)
  rw [hwB.out]
  go_wp2_with fail
  clear j0 j1
  have SK := Lib.hid (fun w' (hb : Below wB.heap.size wB w') => (show w'.cell? ⟨w.heap.size, 0, none⟩ = some (.slice (some ⟨b, off, none⟩) 2 t.sc) ∧ w'.cell? ⟨w.heap.size, 1, none⟩ = some (.slice (some ⟨cb, co, none⟩) cl t.cc) from ⟨(J.out.kept hb).see.1, (J.out.kept hb).see.2.1⟩))
  have t1 := Lib.hid (show Below wB.heap.size wB wB.drew from (Below.refl _ _).drew)
  go_upto_region 3 with (fail)
  refine wp_region_held_drew (S := fun w' => w'.cell? ⟨w.heap.size, 0, none⟩ = some (.slice (some ⟨b, off, none⟩) 2 t.sc) ∧ w'.cell? ⟨w.heap.size, 1, none⟩ = some (.slice (some ⟨cb, co, none⟩) cl t.cc)) (by kernel_rfl) (SK.out _ t1.out) (fun hHeld => ?_)
  refine held_take 0 (.agg #[.slice (some ⟨b, off, none⟩) 2 t.sc, .slice (some ⟨cb, co, none⟩) cl t.cc]) rfl (by kernel_rfl) (by kernel_rfl) (by kernel_rfl) (fun _ _ _ h => h) (by rfl) (by intro w' hS; go_simp) (by assumption) ?_
  try simp only [Act.put, List.setIfInBounds_toArray, List.set_cons_zero, List.set_cons_succ]
  refine held_take 1 (.int .i64 iN) rfl (by kernel_rfl) (by kernel_rfl) (by kernel_rfl) (fun _ _ _ h => h) (by rfl) (by intro w' hS; go_simp) (by assumption) ?_
  try simp only [Act.put, List.setIfInBounds_toArray, List.set_cons_zero, List.set_cons_succ]
  refine held_take 3 (.agg #[.slice (some ⟨b, off, none⟩) 2 t.sc, .slice (some ⟨cb, co, none⟩) cl t.cc]) rfl (by kernel_rfl) (by kernel_rfl) (by kernel_rfl) (fun _ _ _ h => h) (by rfl) (by intro w' hS; go_simp) (by assumption) ?_
  try simp only [Act.put, List.setIfInBounds_toArray, List.set_cons_zero, List.set_cons_succ]
  refine held_take 4 (.int .i64 jN) rfl (by kernel_rfl) (by kernel_rfl) (by kernel_rfl) (fun _ _ _ h => h) (by rfl) (by intro w' hS; go_simp) (by assumption) ?_
  try simp only [Act.put, List.setIfInBounds_toArray, List.set_cons_zero, List.set_cons_succ]
  refine held_call 2 (by kernel_rfl) rfl (by rfl) (fun K hK => ?_)
  go_simp
  refine (RW.out wB.drew t1.out).mono ?_
  rintro e wq1 ⟨A1, pa, rfl, oc, hb⟩
  have bq1 := Lib.hid (t1.out.trans ((hb).mono t1.out.size))
  obtain ⟨ga, pa', hva⟩ := Joins.ownsRow_form oc (by omega)
  simp only [Value.slice.injEq] at hva
  obtain ⟨rfl, -, rfl⟩ := hva
  have ia := Lib.hid (row_ints oc (show n ≤ 9223372036854775807 by omega) (rowD_fits hcf.out n iN))
  have kka := Lib.hid hb
  clear oc
  go_wp2_with fail
  refine hK.out _ _ (SK.out _ bq1.out) (fun hHeld => ?_)
  try simp only [Act.put, List.setIfInBounds_toArray, List.set_cons_zero, List.set_cons_succ]
  refine held_call 5 (by kernel_rfl) rfl (by rfl) (fun K hK => ?_)
  go_simp
  refine (CL.out wq1 bq1.out).mono ?_
  rintro e wq2 ⟨A2, pb, rfl, oc, hb⟩
  have bq2 := Lib.hid (bq1.out.trans ((hb).mono bq1.out.size))
  obtain ⟨gb, pb', hvb⟩ := Joins.ownsRow_form oc (by omega)
  simp only [Value.slice.injEq] at hvb
  obtain ⟨rfl, -, rfl⟩ := hvb
  have ib := Lib.hid (row_ints oc (show m ≤ 9223372036854775807 by omega) (colD_fits hcf.out n m jN))
  have kkb := Lib.hid hb
  clear oc
  go_wp2_with fail
  refine hK.out _ _ (SK.out _ bq2.out) (fun hHeld => ?_)
  try simp only [Act.put, List.setIfInBounds_toArray, List.set_cons_zero, List.set_cons_succ]
  refine held_take 6 (.slice (some ⟨ga, 0, none⟩) n pa) rfl (by kernel_rfl) (by kernel_rfl) (by kernel_rfl) (fun _ _ _ h => h) (by rfl) (by intro w' hS; go_simp) (by assumption) ?_
  try simp only [Act.put, List.setIfInBounds_toArray, List.set_cons_zero, List.set_cons_succ]
  refine held_take 7 (.slice (some ⟨gb, 0, none⟩) m pb) rfl (by kernel_rfl) (by kernel_rfl) (by kernel_rfl) (fun _ _ _ h => h) (by rfl) (by intro w' hS; go_simp) (by assumption) ?_
  try simp only [Act.put, List.setIfInBounds_toArray, List.set_cons_zero, List.set_cons_succ]
  refine wpAnyH_done (by kernel_rfl) ?_ _
  obtain ⟨j0, j1, -, -⟩ := (J.out.kept bq2.out).see
  have f0 := F0.out _ (bq2.out)
  have f1 := F1.out _ (bq2.out)
  go_wp2_with fail
  refine (RR.out wq2 bq2.out).mono ?_
  rintro e W3 ⟨rfl, hb3⟩
  have BB := Lib.hid (bq2.out.trans (hb3.mono bq2.out.size))
  replace ia := Lib.hid ((ia.out.kept kkb.out).kept hb3)
  replace ib := Lib.hid (ib.out.kept hb3)
  clear hb3 RR RW CL SK hHeld
  clear j0 j1 f0 f1
  obtain ⟨j0, j1, -, -⟩ := (J.out.kept BB.out).see
  have f0 := F0.out _ (BB.out)
  have f1 := F1.out _ (BB.out)
  go_wp2_with fail
  clear j0 j1 f0 f1
  go_loopw [72] (fun q wr => ∃ k : Nat, k ≤ n ∧ q = .int .i64 k ∧ Hid (∃ m, wr = W3.drewN m)) (fun q _ => n - (intOf q).toNat)
  case atStart => exact ⟨0, Nat.zero_le _, rfl, Lib.hid ⟨0, rfl⟩⟩
  case round =>
    obtain ⟨k, hk, rfl, hw⟩ := hrel
    obtain ⟨m', hm⟩ := hw.out
    have kW := Lib.hid (show Below W3.heap.size W3 wr by rw [hm]; exact below_drewN' (Below.refl _ _) m')
    have bW := Lib.hid (BB.out.trans (kW.out.mono BB.out.size))
    by_cases hlt : k < n
    · have ca := at_cell (ia.out.kept kW.out) hlt
      rw [Nat.zero_add, rowD_get hlt] at ca
      have hix : iN * n + k < m * n := cell_in hiN hlt
      have cw := at_cell (CC.out wr bW.out) (j := iN * n + k) (by rw [hL.out]; exact hix)
      have w1' : IntKind.i64.wrap ((iN : Int) * (n : Int)) = ((iN * n : Nat) : Int) := by
        have : (iN : Int) * n = ((iN * n : Nat) : Int) := by simp
        rw [this]; exact IntWalk.i64_in _ (by have := hmn.out; omega)
      have hix2 := hix
      obtain ⟨inn, hinn⟩ : ∃ inn, iN * n = inn := ⟨_, rfl⟩
      rw [hinn] at ca cw w1' hix2
      have hcl4 : inn + k < cl := by rw [hL.out]; exact hix2
      have hI1 : (0 : Int) ≤ (inn : Int) + (k : Int) := by omega
      have hI2 : (inn : Int) + (k : Int) < (cl : Int) := by omega
      have hI3 : ((inn : Int) + (k : Int)).toNat = inn + k := by omega
      have w2' : IntKind.i64.wrap ((inn : Int) + (k : Int)) = (inn : Int) + (k : Int) := IntWalk.i64_in _ (by have := hcl4x.out; omega)
      obtain ⟨xv, hxv⟩ : ∃ xv, t.cs.getD (inn + k) 0 = xv := ⟨_, rfl⟩
      rw [hxv] at ca cw
      have hm' := Lib.hid hm
      clear hm hw hxv hinn hix hix2
      obtain ⟨j0, j1, -, -⟩ := (J.out.kept bW.out).see
      have f0 := F0.out _ (bW.out)
      have f1 := F1.out _ (bW.out)
      go_wp2_with fail
      go_quiet (fail)
      go_wp2_with fail
      go_roundw
      case rel => exact ⟨k + 1, by omega, by go_num, Lib.hid ⟨m' + nq, by rw [hm'.out, World.drewN_drewN]⟩⟩
      case measure => (simp [intOf]; try omega)
    · clear hm hw
      have bWj := Lib.hid (BB.out.trans (kW.out.mono BB.out.size))
      obtain ⟨j0, j1, -, -⟩ := (J.out.kept bWj.out).see
      have f0 := F0.out _ (bWj.out)
      have f1 := F1.out _ (bWj.out)
      go_wp2_with fail
      clear j0 j1 f0 f1
      have ib2 := Lib.hid (ib.out.kept kW.out)
      obtain ⟨W5, hW5⟩ : ∃ W5, wr = W5 := ⟨_, rfl⟩
      rw [hW5] at bWj ib2 ⊢
      have BB2 := bWj
      clear bWj kW hW5
      go_loopw [117] (fun q wr => ∃ k : Nat, k ≤ m ∧ q = .int .i64 k ∧ Hid (∃ m, wr = W5.drewN m)) (fun q _ => m - (intOf q).toNat)
      case atStart => exact ⟨0, Nat.zero_le _, rfl, Lib.hid ⟨0, rfl⟩⟩
      case round =>
        obtain ⟨k, hk, rfl, hw⟩ := hrel
        obtain ⟨m', hm⟩ := hw.out
        have kW := Lib.hid (show Below W5.heap.size W5 wr by rw [hm]; exact below_drewN' (Below.refl _ _) m')
        have bW := Lib.hid (BB2.out.trans (kW.out.mono BB2.out.size))
        by_cases hlt : k < m
        · have ca := at_cell (ib2.out.kept kW.out) hlt
          rw [Nat.zero_add, colD_get hlt] at ca
          have hix : k * n + jN < m * n := cell_in hlt hjN
          have cw := at_cell (CC.out wr bW.out) (j := k * n + jN) (by rw [hL.out]; exact hix)
          have w1' : IntKind.i64.wrap ((k : Int) * (n : Int)) = ((k * n : Nat) : Int) := by
            have : (k : Int) * n = ((k * n : Nat) : Int) := by simp
            rw [this]; exact IntWalk.i64_in _ (by have := hmn.out; omega)
          have hix2 := hix
          obtain ⟨inn, hinn⟩ : ∃ inn, k * n = inn := ⟨_, rfl⟩
          rw [hinn] at ca cw w1' hix2
          have hcl4 : inn + jN < cl := by rw [hL.out]; exact hix2
          have hI1 : (0 : Int) ≤ (inn : Int) + (jN : Int) := by omega
          have hI2 : (inn : Int) + (jN : Int) < (cl : Int) := by omega
          have hI3 : ((inn : Int) + (jN : Int)).toNat = inn + jN := by omega
          have w2' : IntKind.i64.wrap ((inn : Int) + (jN : Int)) = (inn : Int) + (jN : Int) := IntWalk.i64_in _ (by have := hcl4x.out; omega)
          obtain ⟨xv, hxv⟩ : ∃ xv, t.cs.getD (inn + jN) 0 = xv := ⟨_, rfl⟩
          rw [hxv] at ca cw
          have hm' := Lib.hid hm
          clear hm hw hxv hinn hix hix2
          obtain ⟨j0, j1, -, -⟩ := (J.out.kept bW.out).see
          have f0 := F0.out _ (bW.out)
          have f1 := F1.out _ (bW.out)
          go_wp2_with fail
          go_quiet (fail)
          go_wp2_with fail
          go_roundw
          case rel => exact ⟨k + 1, by omega, by go_num, Lib.hid ⟨m' + nq, by rw [hm'.out, World.drewN_drewN]⟩⟩
          case measure => (simp [intOf]; try omega)
        · clear hm hw
          have bW9 := Lib.hid (BB2.out.trans (kW.out.mono BB2.out.size))
          have bZ := Lib.hid (z.out.trans (bW9.out.mono z.out.size))
          go_wp2_with fail
          refine (awake06_any _).mono ?_
          rintro e w9 ⟨rfl, hb9⟩
          go_wp2_with fail
          go_ret
          exact ⟨rfl, bZ.out.trans (hb9.mono bZ.out.size)⟩

theorem denseRows_walk (t : TV) (i j : Int) (w : World) (h : t.At w) (hc : t.Cap) (hi1 : -9223372036854775808 ≤ i) (hi2 : i ≤ 9223372036854775807) (hj1 : -9223372036854775808 ≤ j) (hj2 : j ≤ 9223372036854775807) :
    Calls Try.prog 5 #[.agg #[.slice t.sa t.sl t.sc, .slice t.ca t.cl t.cc], .int .i64 i, .int .i64 j] w fun e w' => e = .returned (.bool true) ∧ Below w.heap.size w w' := by
  by_cases hs : t.cl ≤ 400 ∧ t.sl ≤ 9
  case neg => exact denseRows_big t i j w hs
  cases hm : matT t.ss t.cl
  · exact denseRows_no t i j w h hs.1 hs.2 hm
  by_cases a1 : i < 0
  · by_cases b1 : j < 0
    · exact denseRows_neg_neg t i j w h hc hs.1 hm a1 b1
    · by_cases b2 : t.ss.getD 1 0 ≤ j
      · exact denseRows_neg_big t i j w h hc hs.1 hm a1 b1 b2
      · exact denseRows_neg_ok t i j w h hc hs.1 hm a1 j.toNat (by omega) (by omega)
  · by_cases a2 : t.ss.getD 0 0 ≤ i
    · by_cases b1 : j < 0
      · exact denseRows_big_neg t i j w h hc hs.1 hm a1 a2 b1
      · by_cases b2 : t.ss.getD 1 0 ≤ j
        · exact denseRows_big_big t i j w h hc hs.1 hm a1 a2 b1 b2
        · exact denseRows_big_ok t i j w h hc hs.1 hm a1 a2 j.toNat (by omega) (by omega)
    · by_cases b1 : j < 0
      · exact denseRows_ok_neg t i j w h hc hs.1 hm i.toNat (by omega) (by omega) b1
      · by_cases b2 : t.ss.getD 1 0 ≤ j
        · exact denseRows_ok_big t i j w h hc hs.1 hm i.toNat (by omega) (by omega) b1 b2
        · exact denseRows_ok_ok t i j w h hc hs.1 hm i.toNat (by omega) (by omega) j.toNat (by omega) (by omega)
end Go.Proofs.Ytlpecdfiagklpaa
