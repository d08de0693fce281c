/-
  Contracts of package dense: Row, Column.
-/
import Derived.Test.YtlpecdfiagklpaaDenseC
namespace Go.Proofs.Ytlpecdfiagklpaa
open Go.RowKit
set_option linter.unusedVariables false
set_option linter.unusedSimpArgs false

theorem matT_facts {ss : List Int} {c : Nat} (h : matT ss c = true) : ∃ m n : Nat, ss = [(m : Int), (n : Int)] ∧ c = m * n ∧ 1 ≤ m ∧ m ≤ 1024 ∧ 1 ≤ n ∧ n ≤ 1024 ∧ rightT ss c = true := by
  unfold matT at h
  simp only [Bool.and_eq_true, decide_eq_true_eq] at h
  obtain ⟨h1, h2⟩ := h
  match ss, h2 with
  | [a, b], _ =>
    obtain ⟨c1, c2⟩ := rightT_parts h1
    obtain ⟨-, -, e3, e4⟩ := rightS_parts c1
    have m1 := allR_getD e3 0 (by simp)
    have n1 := allR_getD e3 1 (by simp)
    simp at m1 n1
    rw [prodI_two] at c2
    refine ⟨a.toNat, b.toNat, ?_, ?_, by omega, by omega, by omega, by omega, h1⟩
    · rw [show ((a.toNat : Nat) : Int) = a by omega, show ((b.toNat : Nat) : Int) = b by omega]
    · have : ((a.toNat * b.toNat : Nat) : Int) = a * b := by
        rw [Int.natCast_mul, show ((a.toNat : Nat) : Int) = a by omega, show ((b.toNat : Nat) : Int) = b by omega]
      omega
theorem rowD_fits {w : List Int} (h : Fits w) (n i : Nat) : Fits (rowD w n i) := by
  intro x hx
  unfold rowD at hx
  exact h x (List.mem_of_mem_drop (List.mem_of_mem_take hx))

set_option maxHeartbeats 2000000 in
theorem drow_no1 (t : TV) (i : Int) (w : World) (h : t.At w) (hm : matT t.ss t.cl = false) :
    Calls Try.prog 20 #[.agg #[.slice t.sa t.sl t.sc, .slice t.ca t.cl t.cc], .int .i64 i] w fun e w' => e = .returned (.slice none 0 0) ∧ Below w.heap.size w w' := by
  obtain ⟨wB, hwB, J, z, -⟩ := grid_box w (.slice t.sa t.sl t.sc) (.slice t.ca t.cl t.cc)
  have C := ismat_any t wB (h.kept z.out)
  rw [hm] at C
  have C1 := Lib.hid C
  obtain ⟨j0, j1, -, -⟩ := J.out.see
  clear C h hm
  go_enter Try.func20, Try.ntmps20
  go_upto_region 1 with (fail)
  rw [hwB.out]
  go_wp2_with fail
  refine C1.out.mono ?_
  rintro e w1 ⟨rfl, hb1⟩
  clear j0 j1
  go_wp2_with fail
  go_ret
  exact ⟨rfl, z.out.trans (hb1.mono z.out.size)⟩

set_option maxHeartbeats 2000000 in
theorem drow_no2 (t : TV) (i : Int) (w : World) (h : t.At w) (hm : matT t.ss t.cl = true) (hi : i < 0 ∨ t.ss.getD 0 0 ≤ i) :
    Calls Try.prog 20 #[.agg #[.slice t.sa t.sl t.sc, .slice t.ca t.cl t.cc], .int .i64 i] w fun e w' => e = .returned (.slice none 0 0) ∧ Below w.heap.size w w' := by
  have hs2 := matT_len h hm
  obtain ⟨b, off, hba, hb1⟩ : ∃ b off, t.sa = some ⟨b, off, none⟩ ∧ w.cell? ⟨b, off, none⟩ = some (.int .i64 (t.ss.getD 0 0)) := by
    rcases h.1.2.2.2 with h4 | ⟨b, off, ha, hc⟩
    · omega
    · exact ⟨b, off, ha, by have := hc 0 (by omega); simpa using this⟩
  have C := fun w1 (hb : Below w.heap.size w w1) => ismat_any t w1 (h.kept hb)
  rw [hm] at C
  rw [hba, hs2] at C ⊢
  obtain ⟨wB, hwB, J, z, -⟩ := grid_box w (.slice (some ⟨b, off, none⟩) 2 t.sc) (.slice t.ca t.cl t.cc)
  have C1 := Lib.hid (C wB z.out)
  have F0 := Lib.hid (fun w1 (hb : Below wB.heap.size wB w1) => cell_later hb (cell_later z.out hb1))
  obtain ⟨j0, j1, -, -⟩ := J.out.see
  obtain ⟨x, hx⟩ : ∃ x, t.ss.getD 0 0 = x := ⟨_, rfl⟩
  rw [hx] at hi F0
  clear C h hm hb1 hba hs2 hx
  by_cases c : i < 0
  · clear hi
    have d : decide (i < 0) = true := decide_eq_true c
    go_enter Try.func20, Try.ntmps20
    go_upto_region 1 with (fail)
    rw [hwB.out]
    go_wp2_with fail
    refine C1.out.mono ?_
    rintro e w1 ⟨rfl, hb1⟩
    clear j0 j1
    go_wp2_with fail
    go_ret
    exact ⟨rfl, z.out.trans (hb1.mono z.out.size)⟩
  · have d : decide (i < 0) = false := decide_eq_false c
    have c2 : x ≤ i := by omega
    have d2 : decide (x ≤ i) = true := decide_eq_true c2
    clear hi
    go_enter Try.func20, Try.ntmps20
    go_upto_region 1 with (fail)
    rw [hwB.out]
    go_wp2_with fail
    refine C1.out.mono ?_
    rintro e w1 ⟨rfl, hb1⟩
    clear j0 j1
    obtain ⟨j0, j1, -, -⟩ := (J.out.kept hb1).see
    have f0 := F0.out w1 hb1
    go_wp2_with fail
    go_ret
    exact ⟨rfl, z.out.trans (hb1.mono z.out.size)⟩

set_option maxHeartbeats 2000000 in
theorem drow_ok (t : TV) (m n i : Nat) (w : World) (h : t.At w) (hc : t.Cap) (hm : matT t.ss t.cl = true) (hss : t.ss = [(m : Int), (n : Int)]) (hcl : t.cl = m * n) (hl : t.cl ≤ 1000) (hi : i < m) (hn1 : 1 ≤ n) (hm1 : 1 ≤ m) (hn : n ≤ 1000) (hmm : m ≤ 1000) :
    Calls Try.prog 20 #[.agg #[.slice t.sa t.sl t.sc, .slice t.ca t.cl t.cc], .int .i64 i] w (NewFs w n (rowD t.cs n i)) := by
  have hs2 := matT_len h hm
  obtain ⟨b, off, hba, hc0, hc1⟩ : ∃ b off, t.sa = some ⟨b, off, none⟩ ∧ w.cell? ⟨b, off, none⟩ = some (.int .i64 m) ∧ w.cell? ⟨b, off + 1, none⟩ = some (.int .i64 n) := by
    rcases h.1.2.2.2 with h4 | ⟨b, off, ha, hc⟩
    · omega
    · rw [hss] at hc
      exact ⟨b, off, ha, by simpa using hc 0 (by omega), by simpa using hc 1 (by omega)⟩
  have hC := h.2.1
  obtain ⟨cb, co, hca⟩ : ∃ cb co, t.ca = some ⟨cb, co, none⟩ := by
    rcases hC.2.2.2 with h4 | ⟨b, off, ha, hc⟩
    · have := Nat.mul_le_mul hm1 hn1; omega
    · exact ⟨b, off, ha⟩
  have C := fun w1 (hb : Below w.heap.size w w1) => ismat_any t w1 (h.kept hb)
  rw [hm] at C
  rw [hca, hcl] at hC
  have hcc := hc.1
  rw [hcl] at hcc hl
  have R := fun w1 (hb : Below w.heap.size w w1) => row_any b off t.sc cb co (m * n) t.cc m n i w1 (cell_later hb hc1) rfl hcc hc.2 (by omega) hi hn1
  have RI := Lib.hid (fun w1 (hb : Below w.heap.size w w1) => rowD_ints (hC.kept hb) hi)
  rw [hba, hca, hs2, hcl] at C ⊢
  obtain ⟨wB, hwB, J, z, -⟩ := grid_box w (.slice (some ⟨b, off, none⟩) 2 t.sc) (.slice (some ⟨cb, co, none⟩) (m * n) t.cc)
  have C1 := Lib.hid (C wB z.out)
  have F0 := Lib.hid (fun w1 (hb : Below wB.heap.size wB w1) => cell_later hb (cell_later z.out hc0))
  have R1 := Lib.hid (fun w1 (hb : Below wB.heap.size wB w1) => R w1 (z.out.trans (hb.mono z.out.size)))
  obtain ⟨j0, j1, -, -⟩ := J.out.see
  have c1 : ¬ (i : Int) < 0 := by omega
  have d1 : decide ((i : Int) < 0) = false := decide_eq_false c1
  have d2 : decide ((m : Int) ≤ (i : Int)) = false := decide_eq_false (by omega)
  have d3 : decide (m ≤ i) = false := decide_eq_false (by omega)
  clear C h hm hc0 hc1 hba hca hs2 hss hcl hC hcc hc R
  go_enter Try.func20, Try.ntmps20
  go_upto_region 1 with (fail)
  rw [hwB.out]
  go_wp2_with fail
  refine C1.out.mono ?_
  rintro e w1 ⟨rfl, hb1⟩
  have b1 := Lib.hid hb1
  clear j0 j1 hb1
  obtain ⟨j0, j1, -, -⟩ := (J.out.kept b1.out).see
  have f0 := F0.out w1 b1.out
  go_wp2_with fail
  refine (R1.out w1 b1.out).mono ?_
  rintro e w2 ⟨rfl, hb2⟩
  have b2 := Lib.hid (b1.out.trans (hb2.mono b1.out.size))
  have CL := Lib.hid (cloneF_any (some ⟨cb, co + i * n, none⟩) n (t.cc - i * n) (rowD t.cs n i) w2 (RI.out w2 (z.out.trans (b2.out.mono z.out.size))) hn)
  clear j0 j1 f0 hb2
  go_wp2_with fail
  refine CL.out.mono ?_
  rintro e w3 ⟨A, cp, rfl, oc, hb3⟩
  have b3 := b2.out.trans (hb3.mono b2.out.size)
  have b4 := z.out.trans (b3.mono z.out.size)
  have P := Lib.hid (And.intro (Joins.ownsRow_le oc (z.out.trans (b2.out.mono z.out.size)).size) b4)
  clear oc hb3 b3 b4
  go_wp2_with fail
  go_ret
  exact ⟨A, cp, rfl, P.out.1, P.out.2⟩

set_option maxHeartbeats 2000000 in
theorem dcol_no1 (t : TV) (i : Int) (w : World) (h : t.At w) (hm : matT t.ss t.cl = false) :
    Calls Try.prog 21 #[.agg #[.slice t.sa t.sl t.sc, .slice t.ca t.cl t.cc], .int .i64 i] w fun e w' => e = .returned (.slice none 0 0) ∧ Below w.heap.size w w' := by
  obtain ⟨wB, hwB, J, z, -⟩ := grid_box w (.slice t.sa t.sl t.sc) (.slice t.ca t.cl t.cc)
  have C := ismat_any t wB (h.kept z.out)
  rw [hm] at C
  have C1 := Lib.hid C
  obtain ⟨j0, j1, -, -⟩ := J.out.see
  clear C h hm
  go_enter Try.func21, Try.ntmps21
  go_upto_region 1 with (fail)
  rw [hwB.out]
  go_wp2_with fail
  refine C1.out.mono ?_
  rintro e w1 ⟨rfl, hb1⟩
  clear j0 j1
  go_wp2_with fail
  go_ret
  exact ⟨rfl, z.out.trans (hb1.mono z.out.size)⟩

set_option maxHeartbeats 2000000 in
theorem dcol_no2 (t : TV) (i : Int) (w : World) (h : t.At w) (hm : matT t.ss t.cl = true) (hi : i < 0 ∨ t.ss.getD 1 0 ≤ i) :
    Calls Try.prog 21 #[.agg #[.slice t.sa t.sl t.sc, .slice t.ca t.cl t.cc], .int .i64 i] w fun e w' => e = .returned (.slice none 0 0) ∧ Below w.heap.size w w' := by
  have hs2 := matT_len h hm
  obtain ⟨b, off, hba, hb1⟩ : ∃ b off, t.sa = some ⟨b, off, none⟩ ∧ w.cell? ⟨b, off + 1, none⟩ = some (.int .i64 (t.ss.getD 1 0)) := by
    rcases h.1.2.2.2 with h4 | ⟨b, off, ha, hc⟩
    · omega
    · exact ⟨b, off, ha, by have := hc 1 (by omega); simpa using this⟩
  have C := fun w1 (hb : Below w.heap.size w w1) => ismat_any t w1 (h.kept hb)
  rw [hm] at C
  rw [hba, hs2] at C ⊢
  obtain ⟨wB, hwB, J, z, -⟩ := grid_box w (.slice (some ⟨b, off, none⟩) 2 t.sc) (.slice t.ca t.cl t.cc)
  have C1 := Lib.hid (C wB z.out)
  have F0 := Lib.hid (fun w1 (hb : Below wB.heap.size wB w1) => cell_later hb (cell_later z.out hb1))
  obtain ⟨j0, j1, -, -⟩ := J.out.see
  obtain ⟨x, hx⟩ : ∃ x, t.ss.getD 1 0 = x := ⟨_, rfl⟩
  rw [hx] at hi F0
  clear C h hm hb1 hba hs2 hx
  by_cases c : i < 0
  · clear hi
    have d : decide (i < 0) = true := decide_eq_true c
    go_enter Try.func21, Try.ntmps21
    go_upto_region 1 with (fail)
    rw [hwB.out]
    go_wp2_with fail
    refine C1.out.mono ?_
    rintro e w1 ⟨rfl, hb1⟩
    clear j0 j1
    go_wp2_with fail
    go_ret
    exact ⟨rfl, z.out.trans (hb1.mono z.out.size)⟩
  · have d : decide (i < 0) = false := decide_eq_false c
    have c2 : x ≤ i := by omega
    have d2 : decide (x ≤ i) = true := decide_eq_true c2
    clear hi
    go_enter Try.func21, Try.ntmps21
    go_upto_region 1 with (fail)
    rw [hwB.out]
    go_wp2_with fail
    refine C1.out.mono ?_
    rintro e w1 ⟨rfl, hb1⟩
    clear j0 j1
    obtain ⟨j0, j1, -, -⟩ := (J.out.kept hb1).see
    have f0 := F0.out w1 hb1
    go_wp2_with fail
    go_ret
    exact ⟨rfl, z.out.trans (hb1.mono z.out.size)⟩

set_option maxHeartbeats 2000000 in
theorem dcol_ok (t : TV) (m n i : Nat) (w : World) (h : t.At w) (hc : t.Cap) (hm : matT t.ss t.cl = true) (hss : t.ss = [(m : Int), (n : Int)]) (hcl : t.cl = m * n) (hl : t.cl ≤ 1000) (hi : i < n) (hn1 : 1 ≤ n) (hm1 : 1 ≤ m) (hn : n ≤ 1000) (hmm : m ≤ 1000) :
    Calls Try.prog 21 #[.agg #[.slice t.sa t.sl t.sc, .slice t.ca t.cl t.cc], .int .i64 i] w (NewFs w m (colD t.cs n m i)) := by
  have hs2 := matT_len h hm
  obtain ⟨b, off, hba, hc0, hc1⟩ : ∃ b off, t.sa = some ⟨b, off, none⟩ ∧ w.cell? ⟨b, off, none⟩ = some (.int .i64 m) ∧ w.cell? ⟨b, off + 1, none⟩ = some (.int .i64 n) := by
    rcases h.1.2.2.2 with h4 | ⟨b, off, ha, hc⟩
    · omega
    · rw [hss] at hc
      exact ⟨b, off, ha, by simpa using hc 0 (by omega), by simpa using hc 1 (by omega)⟩
  have hC := h.2.1
  obtain ⟨cb, co, hca⟩ : ∃ cb co, t.ca = some ⟨cb, co, none⟩ := by
    rcases hC.2.2.2 with h4 | ⟨b, off, ha, hc⟩
    · have := Nat.mul_le_mul hm1 hn1; omega
    · exact ⟨b, off, ha⟩
  have C := fun w1 (hb : Below w.heap.size w w1) => ismat_any t w1 (h.kept hb)
  rw [hm] at C
  rw [hca, hcl] at hC
  have hcc := hc.1
  rw [hcl] at hcc hl
  have R := fun w1 (hb : Below w.heap.size w w1) => column_any b off t.sc cb co (m * n) t.cc m n i t.cs w1 (cell_later hb hc0) (cell_later hb hc1) (hC.kept hb) rfl hcc hc.2 (by omega) hi
  rw [hba, hca, hs2, hcl] at C ⊢
  obtain ⟨wB, hwB, J, z, -⟩ := grid_box w (.slice (some ⟨b, off, none⟩) 2 t.sc) (.slice (some ⟨cb, co, none⟩) (m * n) t.cc)
  have C1 := Lib.hid (C wB z.out)
  have F0 := Lib.hid (fun w1 (hb : Below wB.heap.size wB w1) => cell_later hb (cell_later z.out hc1))
  have R1 := Lib.hid (fun w1 (hb : Below wB.heap.size wB w1) => R w1 (z.out.trans (hb.mono z.out.size)))
  obtain ⟨j0, j1, -, -⟩ := J.out.see
  have c1 : ¬ (i : Int) < 0 := by omega
  have d1 : decide ((i : Int) < 0) = false := decide_eq_false c1
  have d2 : decide ((n : Int) ≤ (i : Int)) = false := decide_eq_false (by omega)
  have d3 : decide (n ≤ i) = false := decide_eq_false (by omega)
  clear C h hm hc0 hc1 hba hca hs2 hss hcl hC hcc hc R
  go_enter Try.func21, Try.ntmps21
  go_upto_region 1 with (fail)
  rw [hwB.out]
  go_wp2_with fail
  refine C1.out.mono ?_
  rintro e w1 ⟨rfl, hb1⟩
  have b1 := Lib.hid hb1
  clear j0 j1 hb1
  obtain ⟨j0, j1, -, -⟩ := (J.out.kept b1.out).see
  have f0 := F0.out w1 b1.out
  go_wp2_with fail
  refine (R1.out w1 b1.out).mono ?_
  rintro e w2 ⟨A, cp, rfl, oc, hb2⟩
  have b2 := b1.out.trans (hb2.mono b1.out.size)
  have P := Lib.hid (And.intro (Joins.ownsRow_le oc (z.out.trans (b1.out.mono z.out.size)).size) (z.out.trans (b2.mono z.out.size)))
  clear j0 j1 f0 hb2 oc b2
  go_wp2_with fail
  go_ret
  exact ⟨A, cp, rfl, P.out.1, P.out.2⟩
end Go.Proofs.Ytlpecdfiagklpaa
