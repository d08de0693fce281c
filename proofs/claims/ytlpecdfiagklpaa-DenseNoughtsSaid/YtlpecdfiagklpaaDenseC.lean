/-
  The contract of package dense's Go.
-/
import Derived.Test.YtlpecdfiagklpaaDenseB
import Derived.Test.YtlpecdfiagklpaaSave
import Derived.Test.YtlpecdfiagklpaaFixS
import Derived.Test.YtlpecdfiagklpaaTenH
namespace Go.Proofs.Ytlpecdfiagklpaa
open Go.RowKit
set_option linter.unusedVariables false
set_option linter.unusedSimpArgs false

theorem prodI_two (m n : Int) : prodI [m, n] = m * n := by simp [prodI]
theorem prodI_one (m : Int) : prodI [m] = m := by simp [prodI]
/-- What fits has these sides. -/
theorem fitT_facts {ws bs xs : List Int} {wn bn xn : Nat} (h : fitT ws wn bs bn xs xn = true) :
    ws = [(bn : Int), (xn : Int)] ∧ bs = [(bn : Int)] ∧ wn = bn * xn ∧ 1 ≤ bn ∧ bn ≤ 1024 ∧ 1 ≤ xn ∧ xn ≤ 1024 ∧ rightT ws wn = true ∧ rightT bs bn = true ∧ rightT xs xn = true ∧ wn ≤ 65536 := by
  unfold fitT at h
  simp only [Bool.and_eq_true, decide_eq_true_eq] at h
  obtain ⟨⟨⟨h1, h2⟩, h3⟩, h4⟩ := h
  unfold matT at h1
  unfold outT at h2
  simp only [Bool.and_eq_true, decide_eq_true_eq] at h1 h2
  obtain ⟨a1, a2⟩ := h1
  obtain ⟨b1, b2⟩ := h2
  match ws, a2 with
  | [m, n], _ =>
    have e2 := sameL_eq b2
    simp at e2 h4
    subst e2
    obtain ⟨c1, c2⟩ := rightT_parts a1
    obtain ⟨d1, d2⟩ := rightT_parts b1
    rw [prodI_two] at c2
    rw [prodI_one] at d2
    obtain ⟨-, -, e3, e4⟩ := rightS_parts c1
    have m1 := allR_getD e3 0 (by simp)
    have n1 := allR_getD e3 1 (by simp)
    simp at m1 n1
    rw [prodI_two] at e4
    rw [← d2, ← h4] at c2
    refine ⟨by rw [d2, h4], by rw [d2], by exact_mod_cast c2, by omega, by omega, by omega, by omega, a1, b1, h3, ?_⟩
    rw [← d2, ← h4, ← c2] at e4
    omega
theorem rowD_ints {w : World} {cb co m n : Nat} {cs : List Int} (h : IntsAt w (some ⟨cb, co, none⟩) (m * n) cs) {i : Nat} (hi : i < m) : IntsAt w (some ⟨cb, co + i * n, none⟩) n (rowD cs n i) := by
  obtain ⟨h1, h2, h3, h4⟩ := h
  have e1 : (i + 1) * n ≤ m * n := Nat.mul_le_mul_right n hi
  rw [Nat.add_mul, Nat.one_mul] at e1
  refine ⟨rowD_length h1 hi, by omega, ?_, ?_⟩
  · intro x hx
    exact h3 x (List.mem_of_mem_drop (List.mem_of_mem_take hx))
  · rcases h4 with h4 | ⟨b, off, ha, hc⟩
    · exact .inl (by omega)
    · cases ha
      refine .inr ⟨_, _, rfl, fun j hj => ?_⟩
      rw [rowD_get hj, Nat.add_assoc]
      exact hc _ (by omega)
theorem goD_fits (m n : Nat) (w b x : List Int) : Fits (goD m n w b x) := by
  intro y hy
  unfold goD at hy
  obtain ⟨i, -, rfl⟩ := List.mem_map.1 hy
  exact sat_bounds _

set_option maxRecDepth 100000 in
set_option maxHeartbeats 2000000 in
theorem dgo_no (W B x : TV) (w : World) (hW : W.At w) (hB : B.At w) (hx : x.At w) (hF : fitT W.ss W.cl B.ss B.cl x.ss x.cl = false) :
    Calls Try.prog 10 #[.agg #[.slice W.sa W.sl W.sc, .slice W.ca W.cl W.cc], .agg #[.slice B.sa B.sl B.sc, .slice B.ca B.cl B.cc], .agg #[.slice x.sa x.sl x.sc, .slice x.ca x.cl x.cc]] w (NilT w 20) := by
  obtain ⟨wA, hwA, J1, z1, n1⟩ := grid_box w (.slice W.sa W.sl W.sc) (.slice W.ca W.cl W.cc)
  obtain ⟨wB, hwB, J2, z2, n2⟩ := grid_box wA (.slice B.sa B.sl B.sc) (.slice B.ca B.cl B.cc)
  obtain ⟨wC, hwC, J3, z3, n3⟩ := grid_box wB (.slice x.sa x.sl x.sc) (.slice x.ca x.cl x.cc)
  obtain ⟨wD, hwD, J4, z4, n4⟩ := grid_box wC (.slice none 0 0) (.slice none 0 0)
  rw [n1.out] at J2
  rw [n2.out, n1.out] at J3
  rw [n3.out, n2.out, n1.out] at J4
  have z12 := z1.out.trans (z2.out.mono z1.out.size)
  have z13 := z12.trans (z3.out.mono z12.size)
  have z := Lib.hid (z13.trans (z4.out.mono z13.size))
  have J1' := Lib.hid (((J1.out.kept z2.out).kept z3.out).kept z4.out)
  have J2' := Lib.hid ((J2.out.kept z3.out).kept z4.out)
  have J3' := Lib.hid (J3.out.kept z4.out)
  have nD : Hid (wD.heap.size = w.heap.size + 4) := Lib.hid (by rw [n4.out, n3.out, n2.out, n1.out])
  clear z12 z13 J1 J2 J3 z1 z2 z3 z4 n1 n2 n3 n4
  have C := fit_any W B x wD (hW.kept z.out) (hB.kept z.out) (hx.kept z.out)
  rw [hF] at C
  have C1 := Lib.hid C
  clear C hW hB hx hF
  obtain ⟨j0, j1, -, -⟩ := J1'.out.see
  obtain ⟨i0, i1, -, -⟩ := J2'.out.see
  obtain ⟨k0, k1, -, -⟩ := J3'.out.see
  go_enter Try.func10, Try.ntmps10
  go_upto_region 1 with (fail)
  rw [hwA.out, hwB.out, hwC.out, hwD.out]
  go_wp2_with fail
  refine C1.out.mono ?_
  rintro e w1 ⟨rfl, hb1⟩
  obtain ⟨e0, e1, f0, f1⟩ := (J4.out.kept hb1).see
  obtain ⟨h0, h1, -, -⟩ := ((J4.out.kept hb1).set (.slice none 0 0) (.slice none 0 0)).see
  have Z : Below w.heap.size w ((w1.setCell ⟨w.heap.size + 1 + 1 + 1, 0, none⟩ (.slice none 0 0)).setCell ⟨w.heap.size + 1 + 1 + 1, 1, none⟩ (.slice none 0 0)) :=
    ((z.out.trans (hb1.mono z.out.size)).setCell (show w.heap.size ≤ w.heap.size + 1 + 1 + 1 by omega) _).setCell (show w.heap.size ≤ w.heap.size + 1 + 1 + 1 by omega) _
  go_wp2_with fail
  refine bodyPost_ret (v := .tuple #[.agg #[.slice none 0 0, .slice none 0 0], .int .i64 20]) ?_ rfl ⟨rfl, Z⟩
  simp [results, Try.results10, go_sem, h0, h1]

set_option maxRecDepth 100000 in
set_option maxHeartbeats 8000000 in
theorem dgo_ok (W B x : TV) (w : World) (hW : W.At w) (hB : B.At w) (hx : x.At w) (hWc : W.Cap) (hF : fitT W.ss W.cl B.ss B.cl x.ss x.cl = true) (hB1 : B.cl ≤ 1000) :
    Calls Try.prog 10 #[.agg #[.slice W.sa W.sl W.sc, .slice W.ca W.cl W.cc], .agg #[.slice B.sa B.sl B.sc, .slice B.ca B.cl B.cc], .agg #[.slice x.sa x.sl x.sc, .slice x.ca x.cl x.cc]] w (OkT w B.sl B.ss B.cl (goD B.cl x.cl W.cs B.cs x.cs)) := by
  obtain ⟨p1, p2, p3, p4, p5, p6, p7, p8, p9, p10, p11⟩ := fitT_facts hF
  have hWs : W.sl = 2 := by have := hW.1.1; rw [p1] at this; simpa using this.symm
  have hBs : B.sl = 1 := by have := hB.1.1; rw [p2] at this; simpa using this.symm
  obtain ⟨b, off, hba, hc0, hc1⟩ : ∃ b off, W.sa = some ⟨b, off, none⟩ ∧ w.cell? ⟨b, off, none⟩ = some (.int .i64 B.cl) ∧ w.cell? ⟨b, off + 1, none⟩ = some (.int .i64 x.cl) := by
    rcases hW.1.2.2.2 with h4 | ⟨b, off, ha, hc⟩
    · omega
    · rw [p1] at hc
      exact ⟨b, off, ha, by simpa using hc 0 (by omega), by simpa using hc 1 (by omega)⟩
  have hW2 := hW.2.1
  obtain ⟨cb, co, hca⟩ : ∃ cb co, W.ca = some ⟨cb, co, none⟩ := by
    rcases hW2.2.2.2 with h4 | ⟨b, off, ha, hc⟩
    · have := rightT_pos p8; omega
    · exact ⟨b, off, ha⟩
  obtain ⟨bb, bo, hbb, hBc⟩ : ∃ bb bo, B.ca = some ⟨bb, bo, none⟩ ∧ ∀ j, j < B.cl → w.cell? ⟨bb, bo + j, none⟩ = some (.int .i64 (B.cs.getD j 0)) := by
    rcases hB.2.1.2.2.2 with h4 | ⟨b, off, ha, hc⟩
    · omega
    · exact ⟨b, off, ha, hc⟩
  have C := fun w1 (hb : Below w.heap.size w w1) => fit_any W B x w1 (hW.kept hb) (hB.kept hb) (hx.kept hb)
  rw [hF] at C
  have D := fun w1 (hb : Below w.heap.size w w1) => tcopy_any B.sa B.sl B.sc B.ss B.ca B.cl B.cc B.cs w1 (hB.1.kept hb) (by omega) (hB.2.1.kept hb) hB1
  have R := fun w1 (hb : Below w.heap.size w w1) k (hk : k < B.cl) => row_any b off W.sc cb co (B.cl * x.cl) W.cc B.cl x.cl k w1 (cell_later hb hc1) rfl (by rw [← p3]; exact hWc.1) hWc.2 (by omega) hk p6
  have hX := Lib.hid (fun w1 (hb : Below w.heap.size w w1) => hx.2.1.kept hb)
  have hC2 := Lib.hid (fun w1 (hb : Below w.heap.size w w1) => hW2.kept hb)
  have hBF := Lib.hid hB.2.1.2.2.1
  have hBl := Lib.hid hB.2.1.1
  have HB := Lib.hid (fun w1 (hb : Below w.heap.size w w1) k (hk : k < B.cl) => cell_later hb (hBc k hk))
  rw [hba, hca, hWs, p3] at C
  rw [hbb] at C D
  rw [hca, p3] at hC2
  rw [hba, hca, hbb, hWs, p3]
  have hcc : B.cl * x.cl ≤ W.cc := by rw [← p3]; exact hWc.1
  have hxl := Lib.hid (goD_length B.cl x.cl W.cs B.cs x.cs)
  obtain ⟨m, hm⟩ : ∃ m, B.cl = m := ⟨_, rfl⟩
  obtain ⟨n, hn⟩ : ∃ n, x.cl = n := ⟨_, rfl⟩
  obtain ⟨xs, hxs⟩ : ∃ xs, goD B.cl x.cl W.cs B.cs x.cs = xs := ⟨_, rfl⟩
  have GX := Lib.hid (fun k (hk : k < B.cl) => (by rw [← hxs]; exact goD_get hk : xs.getD k 0 = sat (dotF (rowD W.cs x.cl k) x.cs + B.cs.getD k 0)))
  rw [hxs] at hxl ⊢
  clear hxs
  rw [hm] at C D R hBl HB hxl GX hC2 hcc p4 p5 hB1 ⊢
  rw [hn] at C R GX hX hC2 hcc p6 p7 ⊢
  have sD1 := Lib.hid D
  have sR := Lib.hid R
  clear hm hn hBs hW hB hx hWc hF p1 p2 p3 p8 p9 p10 p11 hWs hba hc0 hc1 hW2 hca hbb hBc D R
  obtain ⟨wA, hwA, J1, z1, n1⟩ := grid_box w (.slice (some ⟨b, off, none⟩) 2 W.sc) (.slice (some ⟨cb, co, none⟩) (m * n) W.cc)
  obtain ⟨wB, hwB, J2, z2, n2⟩ := grid_box wA (.slice B.sa B.sl B.sc) (.slice (some ⟨bb, bo, none⟩) m B.cc)
  obtain ⟨wC, hwC, J3, z3, n3⟩ := grid_box wB (.slice x.sa x.sl x.sc) (.slice x.ca n x.cc)
  obtain ⟨wD, hwD, J4, z4, n4⟩ := grid_box wC (.slice none 0 0) (.slice none 0 0)
  rw [n1.out] at J2
  rw [n2.out, n1.out] at J3
  rw [n3.out, n2.out, n1.out] at J4
  have z12 := z1.out.trans (z2.out.mono z1.out.size)
  have z13 := z12.trans (z3.out.mono z12.size)
  have z := Lib.hid (z13.trans (z4.out.mono z13.size))
  have J1' := Lib.hid (((J1.out.kept z2.out).kept z3.out).kept z4.out)
  have J2' := Lib.hid ((J2.out.kept z3.out).kept z4.out)
  have J3' := Lib.hid (J3.out.kept z4.out)
  have nD : Hid (wD.heap.size = w.heap.size + 4) := Lib.hid (by rw [n4.out, n3.out, n2.out, n1.out])
  clear z12 z13 J1 J2 J3 z1 z2 z3 z4 n1 n2 n3 n4
  have C1 := Lib.hid (C wD z.out)
  clear C
  obtain ⟨j0, j1, -, -⟩ := J1'.out.see
  obtain ⟨i0, i1, -, -⟩ := J2'.out.see
  obtain ⟨k0, k1, -, -⟩ := J3'.out.see
  go_enter Try.func10, Try.ntmps10
  go_upto_region 1 with (fail)
  rw [hwA.out, hwB.out, hwC.out, hwD.out]
  go_wp2_with fail
  refine C1.out.mono ?_
  rintro e w1 ⟨rfl, hb1⟩
  clear j0 j1 i0 i1 k0 k1 C1
  obtain ⟨i0, i1, -, -⟩ := (J2'.out.kept hb1).see
  go_wp2_with fail
  refine (sD1.out w1 (z.out.trans (hb1.mono z.out.size))).mono ?_
  rintro e w2 ⟨v', rfl, A, c, A', c', rfl, ho1, ho2, hne, hb2⟩
  obtain ⟨g, c2, hv⟩ := Joins.ownsRow_form ho2 (by omega)
  simp only [Value.slice.injEq] at hv
  obtain ⟨rfl, -, rfl⟩ := hv
  obtain ⟨g1, g2⟩ := ho2.lt g rfl
  obtain ⟨wE, hwE, JE, zE, nE⟩ := grid_box w2 (.slice A B.sl c) (.slice (some ⟨g, 0, none⟩) m c')
  have hb12 := hb1.trans (hb2.mono hb1.size)
  have bE := Lib.hid (hb12.trans (zE.out.mono hb12.size))
  have gD : wD.heap.size ≤ g := Nat.le_trans hb1.size g1
  have nDx : wD.heap.size = w.heap.size + 4 := nD.out
  have K1 := Lib.hid (J1'.out.kept bE.out)
  have K2 := Lib.hid (J2'.out.kept bE.out)
  have K3 := Lib.hid (J3'.out.kept bE.out)
  have K4 := Lib.hid (J4.out.kept bE.out)
  have hA := Lib.hid (fun q (hq : (Value.slice A B.sl c).ownBlock = some q) => (by
    cases A with
    | none => cases hq
    | some p => cases hq; exact hne p _ rfl rfl : q ≠ g))
  have r1 := Lib.hid (row_kept ho1 zE.out)
  have r2 := Lib.hid (show wE.ownsRow w1.heap.size 47 1 (.slice (some ⟨g, 0, none⟩) m c') m ((mixR xs B.cs 0).map (Value.int .i64)) by rw [mixR_zero]; exact row_kept ho2 zE.out)
  have zz := Lib.hid (z.out.trans (bE.out.mono z.out.size))
  have w1g : wD.heap.size ≤ w1.heap.size := hb1.size
  have BW := Lib.hid (fun w' (hs : Save (fun k => k = g) wE w') => hs.below zz.out zz.out.size (fun k hk => by subst hk; omega))
  have S1 := Lib.hid (fun w' (hs : Save (fun k => k = g) wE w') => (⟨(hs.gat K1.out (by omega)).see.1, (hs.gat K1.out (by omega)).see.2.1, (hs.gat K3.out (by omega)).see.2.1, (hs.gat JE.out (by omega)).see.2.1⟩ :
    w'.cell? ⟨w.heap.size, 0, none⟩ = some (.slice (some ⟨b, off, none⟩) 2 W.sc) ∧ w'.cell? ⟨w.heap.size, 1, none⟩ = some (.slice (some ⟨cb, co, none⟩) (m * n) W.cc) ∧ w'.cell? ⟨w.heap.size + 1 + 1, 1, none⟩ = some (.slice x.ca n x.cc) ∧ w'.cell? ⟨w2.heap.size, 1, none⟩ = some (.slice (some ⟨g, 0, none⟩) m c')))
  have R1 := Lib.hid (fun w' (hs : Save (fun k => k = g) wE w') k (hk : k < m) => sR.out w' (BW.out w' hs) k hk)
  have DT := Lib.hid (fun w' (hs : Save (fun k => k = g) wE w') k (hk : k < m) => dot_any (some ⟨cb, co + k * n, none⟩) x.ca n (W.cc - k * n) n x.cc (rowD W.cs n k) x.cs w' (rowD_ints (hC2.out w' (BW.out w' hs)) hk) (hX.out w' (BW.out w' hs)))
  clear ho1 ho2 hne hb12 i0 i1 sD1 sR
  go_upto_region 4 with (fail)
  rw [hwE.out]
  obtain ⟨m0, m1, -, -⟩ := K2.out.see
  go_wp2_with fail
  go_loopw [22] (fun i wr => ∃ k : Nat, k ≤ m ∧ i = .int .i64 k ∧ Hid (wr.ownsRow w1.heap.size 47 1 (.slice (some ⟨g, 0, none⟩) m c') m ((mixR xs B.cs k).map (Value.int .i64))) ∧ Hid (Save (fun k => k = g) wE wr)) (fun i _ => m - (intOf i).toNat)
  case atStart => exact ⟨0, Nat.zero_le _, rfl, r2, Lib.hid (Save.refl _ _)⟩
  case round =>
    obtain ⟨k, hk, rfl, hrow, hbr⟩ := hrel
    by_cases hlt : k < m
    · have hcy := HB.out wr (BW.out wr hbr.out) k hlt
      have hs := GX.out k hlt
      obtain ⟨y1, y2⟩ := hBF.out.getD k
      obtain ⟨y, hy⟩ : ∃ y, B.cs.getD k 0 = y := ⟨_, rfl⟩
      rw [hy] at hcy hs y1 y2
      have hD := fun w' hs => DT.out w' hs k hlt
      obtain ⟨d1, d2⟩ := dotF_bounds (rowD W.cs n k) x.cs
      obtain ⟨d, hd⟩ : ∃ d, dotF (rowD W.cs n k) x.cs = d := ⟨_, rfl⟩
      rw [hd] at hs d1 d2
      simp only [hd] at hD
      have AA := fun w => add_any d y w d1 d2 y1 y2
      obtain ⟨s, hss⟩ : ∃ s, sat (d + y) = s := ⟨_, rfl⟩
      rw [hss] at hs AA
      have A1 := Lib.hid AA
      have D1 := Lib.hid hD
      clear AA hD hss hd d1 d2 y1 y2
      go_wp2_with fail
      have SK := Lib.hid (fun w' (hb : Save (fun k => k = g) wE w') => (show w'.cell? ⟨w2.heap.size, 1, none⟩ = some (.slice (some ⟨g, 0, none⟩) m c') ∧ w'.cell? ⟨w.heap.size, 0, none⟩ = some (.slice (some ⟨b, off, none⟩) 2 W.sc) ∧ w'.cell? ⟨w.heap.size, 1, none⟩ = some (.slice (some ⟨cb, co, none⟩) (m * n) W.cc) ∧ w'.cell? ⟨w.heap.size + 1 + 1, 1, none⟩ = some (.slice x.ca n x.cc) from ⟨(S1.out w' hb).2.2.2, (S1.out w' hb).1, (S1.out w' hb).2.1, (S1.out w' hb).2.2.1⟩))
      have t1 := Lib.hid (show Below wr.heap.size wr wr.drew from (Below.refl _ _).drew)
      refine wp_region_held_drew (S := fun w' => w'.cell? ⟨w2.heap.size, 1, none⟩ = some (.slice (some ⟨g, 0, none⟩) m c') ∧ w'.cell? ⟨w.heap.size, 0, none⟩ = some (.slice (some ⟨b, off, none⟩) 2 W.sc) ∧ w'.cell? ⟨w.heap.size, 1, none⟩ = some (.slice (some ⟨cb, co, none⟩) (m * n) W.cc) ∧ w'.cell? ⟨w.heap.size + 1 + 1, 1, none⟩ = some (.slice x.ca n x.cc)) (by kernel_rfl) (SK.out _ (hbr.out.later t1.out)) (fun hHeld => ?_)
      refine held_take 0 (.pointer (some ⟨w2.heap.size, 1, none⟩)) rfl (by kernel_rfl) (by kernel_rfl) (by kernel_rfl) (fun _ _ _ h => h) (by rfl) (by intro w' hS; go_simp) (by assumption) ?_
      try simp only [Act.put, List.setIfInBounds_toArray, List.set_cons_zero, List.set_cons_succ]
      refine held_take 1 (.slice (some ⟨g, 0, none⟩) m c') rfl (by kernel_rfl) (by kernel_rfl) (by kernel_rfl) (fun _ _ _ h => h) (by rfl) (by intro w' hS; go_simp) (by assumption) ?_
      try simp only [Act.put, List.setIfInBounds_toArray, List.set_cons_zero, List.set_cons_succ]
      refine held_take 2 (.int .i64 k) rfl (by kernel_rfl) (by kernel_rfl) (by kernel_rfl) (fun _ _ _ h => h) (by rfl) (by intro w' hS; go_simp) (by assumption) ?_
      try simp only [Act.put, List.setIfInBounds_toArray, List.set_cons_zero, List.set_cons_succ]
      refine held_take 3 (.agg #[.slice (some ⟨b, off, none⟩) 2 W.sc, .slice (some ⟨cb, co, none⟩) (m * n) W.cc]) rfl (by kernel_rfl) (by kernel_rfl) (by kernel_rfl) (fun _ _ _ h => h) (by rfl) (by intro w' hS; go_simp) (by assumption) ?_
      try simp only [Act.put, List.setIfInBounds_toArray, List.set_cons_zero, List.set_cons_succ]
      refine held_take 4 (.int .i64 k) rfl (by kernel_rfl) (by kernel_rfl) (by kernel_rfl) (fun _ _ _ h => h) (by rfl) (by intro w' hS; go_simp) (by assumption) ?_
      try simp only [Act.put, List.setIfInBounds_toArray, List.set_cons_zero, List.set_cons_succ]
      refine held_take 6 (.pointer (some ⟨w.heap.size + 1 + 1, 1, none⟩)) rfl (by kernel_rfl) (by kernel_rfl) (by kernel_rfl) (fun _ _ _ h => h) (by rfl) (by intro w' hS; go_simp) (by assumption) ?_
      try simp only [Act.put, List.setIfInBounds_toArray, List.set_cons_zero, List.set_cons_succ]
      refine held_take 7 (.slice x.ca n x.cc) rfl (by kernel_rfl) (by kernel_rfl) (by kernel_rfl) (fun _ _ _ h => h) (by rfl) (by intro w' hS; go_simp) (by assumption) ?_
      try simp only [Act.put, List.setIfInBounds_toArray, List.set_cons_zero, List.set_cons_succ]
      refine held_take 9 (.int .i64 y) rfl (by kernel_rfl) (by kernel_rfl) (by kernel_rfl) (fun _ _ _ h => h) (by rfl) (by intro w' hS; go_simp) (by assumption) ?_
      try simp only [Act.put, List.setIfInBounds_toArray, List.set_cons_zero, List.set_cons_succ]
      refine held_call 5 (by kernel_rfl) rfl (by rfl) (fun K hK => ?_)
      go_simp
      refine (R1.out wr.drew (hbr.out.later t1.out) k hlt).mono ?_
      rintro e wq1 ⟨rfl, hb⟩
      have bq1 := Lib.hid (t1.out.trans ((hb).mono t1.out.size))
      go_wp2_with fail
      refine hK.out _ _ (SK.out _ (hbr.out.later bq1.out)) (fun hHeld => ?_)
      try simp only [Act.put, List.setIfInBounds_toArray, List.set_cons_zero, List.set_cons_succ]
      refine held_call 8 (by kernel_rfl) rfl (by rfl) (fun K hK => ?_)
      go_simp
      refine (D1.out wq1 (hbr.out.later bq1.out)).mono ?_
      rintro e _ ⟨rfl, nq, rfl⟩
      have bq2 := Lib.hid (bq1.out.trans ((below_drewN' (Below.refl _ _) nq).mono bq1.out.size))
      go_wp2_with fail
      refine hK.out _ _ (SK.out _ (hbr.out.later bq2.out)) (fun hHeld => ?_)
      try simp only [Act.put, List.setIfInBounds_toArray, List.set_cons_zero, List.set_cons_succ]
      refine held_call 10 (by kernel_rfl) rfl (by rfl) (fun K hK => ?_)
      go_simp
      refine (A1.out _).mono ?_
      rintro e _ ⟨rfl, rfl⟩
      have bq3 := Lib.hid (bq2.out.trans ((Below.refl _ _).mono bq2.out.size))
      go_wp2_with fail
      refine hK.out _ _ (SK.out _ (hbr.out.later bq3.out)) (fun hHeld => ?_)
      try simp only [Act.put, List.setIfInBounds_toArray, List.set_cons_zero, List.set_cons_succ]
      refine held_take 11 (.pointer (some ⟨g, k, none⟩)) rfl (by kernel_rfl) (by kernel_rfl) (by kernel_rfl) (fun _ _ _ h => h) (by rfl) (by intro w' hS; go_simp) (by assumption) ?_
      try simp only [Act.put, List.setIfInBounds_toArray, List.set_cons_zero, List.set_cons_succ]
      have hrw := row_kept hrow.out bq3.out
      have hcell : (wq1.drewN nq).cell? ⟨g, k, none⟩ = some (.int .i64 (B.cs.getD k 0)) := by
        have e : (wq1.drewN nq).cell? ⟨g, k, none⟩ = ((mixR xs B.cs k).map (Value.int .i64))[k]? := hrw.cellAt k (by omega)
        rw [List.getElem?_map, mixR_get (by rw [hxl.out, hBl.out]) (by rw [hBl.out]; exact hlt)] at e
        exact e
      have hf := hrw.frozenAt k
      obtain ⟨ho4, hg4⟩ := hrw.stored k (.int .i64 s)
      rw [← hs, ← List.map_set, mixR_set (by rw [hxl.out, hBl.out]) (by rw [hBl.out]; exact hlt), hs] at ho4
      have ho4' := Lib.hid ho4
      have hb4 := Lib.hid ((hbr.out.later bq3.out).setCell (g := g) rfl k (.int .i64 s))
      have SK4 := SK.out _ hb4.out
      clear ho4 hg4 hrw
      refine held_call 12 (by kernel_rfl) rfl (by rfl) (fun K hK => ?_)
      go_simp
      refine hK.out _ _ (SK4) (fun hHeld => ?_)
      try simp only [Act.put, List.setIfInBounds_toArray, List.set_cons_zero, List.set_cons_succ]
      refine wpAnyH_done (by kernel_rfl) ?_ _
      go_wp2_with fail
      go_roundw
      case rel => exact ⟨k + 1, by omega, by go_num, ho4', hb4⟩
      case measure => (simp [intOf]; try omega)
    · obtain rfl : k = m := by omega
      rw [mixR_all hxl.out hBl.out] at hrow
      have J5 := hbr.out.gat K4.out (by omega)
      obtain ⟨e0, e1, f0, f1⟩ := J5.see
      obtain ⟨l0, l1, -, -⟩ := (hbr.out.gat JE.out (by omega)).see
      obtain ⟨h0, h1, -, -⟩ := (J5.set (.slice A B.sl c) (.slice (some ⟨g, 0, none⟩) k c')).see
      have hw1 : w.heap.size + 1 + 1 + 1 < w1.heap.size := by omega
      have P : NewT w B.sl B.ss k xs (.agg #[.slice A B.sl c, .slice (some ⟨g, 0, none⟩) k c']) ((wr.setCell ⟨w.heap.size + 1 + 1 + 1, 0, none⟩ (.slice A B.sl c)).setCell ⟨w.heap.size + 1 + 1 + 1, 1, none⟩ (.slice (some ⟨g, 0, none⟩) k c')) := by
        refine ⟨A, c, _, c', rfl, Joins.ownsRow_le (row_far (row_far (hbr.out.row r1.out hA.out) hw1) hw1) (by omega), Joins.ownsRow_le (row_far (row_far hrow.out hw1) hw1) (by omega), ?_, ?_⟩
        · rintro p q rfl hq
          cases hq
          exact hA.out p.block rfl
        · exact ((BW.out wr hbr.out).setCell (show w.heap.size ≤ w.heap.size + 1 + 1 + 1 by omega) _).setCell (show w.heap.size ≤ w.heap.size + 1 + 1 + 1 by omega) _
      have P' := Lib.hid P
      clear P J5 hw1
      go_wp2_with fail
      refine bodyPost_ret (v := .tuple #[.agg #[.slice A B.sl c, .slice (some ⟨g, 0, none⟩) k c'], .int .i64 0]) ?_ rfl ⟨_, rfl, P'.out⟩
      simp [results, Try.results10, go_sem, h0, h1]
end Go.Proofs.Ytlpecdfiagklpaa
