/-
  The walk of the statement DenseGoes.
-/
import Derived.Test.YtlpecdfiagklpaaAwake06
import Derived.Test.YtlpecdfiagklpaaDenseR
namespace Go.Proofs.Ytlpecdfiagklpaa
open Go.RowKit
set_option linter.unusedVariables false
set_option linter.unusedSimpArgs false

set_option maxRecDepth 100000 in
set_option maxHeartbeats 8000000 in
theorem denseGoes_small (W B x G : TV) (w : World) (hs : smallC W B x G = false) :
    Calls Try.prog 3 #[.agg #[.slice W.sa W.sl W.sc, .slice W.ca W.cl W.cc, .slice B.sa B.sl B.sc, .slice B.ca B.cl B.cc, .slice x.sa x.sl x.sc, .slice x.ca x.cl x.cc, .slice G.sa G.sl G.sc, .slice G.ca G.cl G.cc]] w fun e w' => e = .returned (.bool true) ∧ Below w.heap.size w w' := by
  obtain ⟨wA, hwA, J, z, -⟩ := case_box w (.slice W.sa W.sl W.sc) (.slice W.ca W.cl W.cc) (.slice B.sa B.sl B.sc) (.slice B.ca B.cl B.cc) (.slice x.sa x.sl x.sc) (.slice x.ca x.cl x.cc) (.slice G.sa G.sl G.sc) (.slice G.ca G.cl G.cc)
  have SM := small6_any W B x G wA
  rw [hs] at SM
  have SM' := Lib.hid SM
  clear SM hs
  obtain ⟨⟨j0, j1⟩, ⟨j2, j3⟩, ⟨j4, j5⟩, j6, j7⟩ := (J.out).see
  go_enter Try.func3, Try.ntmps3
  go_upto_region 1 with (fail)
  rw [hwA.out]
  go_wp2_with fail
  refine SM'.out.mono ?_
  rintro e w1 ⟨rfl, hb1⟩
  have b1z := Lib.hid (z.out.trans (hb1.mono z.out.size))
  clear j0 j1 j2 j3 j4 j5 j6 j7
  clear SM' hb1
  go_wp2_with fail
  refine (awake06_any _).mono ?_
  rintro e w9 ⟨rfl, hb9⟩
  go_wp2_with fail
  go_ret
  exact ⟨rfl, b1z.out.trans (hb9.mono b1z.out.size)⟩

set_option maxRecDepth 100000 in
set_option maxHeartbeats 8000000 in
theorem denseGoes_bad (W B x G : TV) (w : World) (hW : W.At w) (hB : B.At w) (hx : x.At w) (hs : smallC W B x G = true) (hF : fitT W.ss W.cl B.ss B.cl x.ss x.cl = false) :
    Calls Try.prog 3 #[.agg #[.slice W.sa W.sl W.sc, .slice W.ca W.cl W.cc, .slice B.sa B.sl B.sc, .slice B.ca B.cl B.cc, .slice x.sa x.sl x.sc, .slice x.ca x.cl x.cc, .slice G.sa G.sl G.sc, .slice G.ca G.cl G.cc]] w fun e w' => e = .returned (.bool true) ∧ Below w.heap.size w w' := by
  obtain ⟨wA, hwA, J, z, -⟩ := case_box w (.slice W.sa W.sl W.sc) (.slice W.ca W.cl W.cc) (.slice B.sa B.sl B.sc) (.slice B.ca B.cl B.cc) (.slice x.sa x.sl x.sc) (.slice x.ca x.cl x.cc) (.slice G.sa G.sl G.sc) (.slice G.ca G.cl G.cc)
  have SM := small6_any W B x G wA
  rw [hs] at SM
  have SM' := Lib.hid SM
  have GO := Lib.hid (fun w1 (hb : Below wA.heap.size wA w1) => dgo_no W B x w1 ((hW.kept z.out).kept hb) ((hB.kept z.out).kept hb) ((hx.kept z.out).kept hb) hF)
  have FI := fun w1 (hb : Below wA.heap.size wA w1) => fits6_any W B x G w1 ((hW.kept z.out).kept hb) ((hB.kept z.out).kept hb) ((hx.kept z.out).kept hb)
  rw [hF] at FI
  have FI' := Lib.hid FI
  clear SM hs FI hW hB hx hF
  obtain ⟨⟨j0, j1⟩, ⟨j2, j3⟩, ⟨j4, j5⟩, j6, j7⟩ := (J.out).see
  go_enter Try.func3, Try.ntmps3
  go_upto_region 1 with (fail)
  rw [hwA.out]
  go_wp2_with fail
  refine SM'.out.mono ?_
  rintro e w1 ⟨rfl, hb1⟩
  have b1 := Lib.hid hb1
  clear j0 j1 j2 j3 j4 j5 j6 j7
  clear SM' hb1
  obtain ⟨⟨j0, j1⟩, ⟨j2, j3⟩, ⟨j4, j5⟩, j6, j7⟩ := (J.out.kept b1.out).see
  go_wp2_with fail
  refine (GO.out w1 b1.out).mono ?_
  rintro e w2 ⟨rfl, hb2⟩
  obtain ⟨wC, hwC, JY, zC, nC⟩ := grid_box w2 (.slice none 0 0) (.slice none 0 0)
  have b2 := Lib.hid (b1.out.trans ((hb2.trans (zC.out.mono hb2.size)).mono b1.out.size))
  clear j0 j1 j2 j3 j4 j5 j6 j7
  clear hb2 GO
  go_upto_region 4 with (fail)
  rw [hwC.out]
  obtain ⟨⟨j0, j1⟩, ⟨j2, j3⟩, ⟨j4, j5⟩, j6, j7⟩ := (J.out.kept b2.out).see
  go_wp2_with fail
  refine (FI'.out wC b2.out).mono ?_
  rintro e w3 ⟨rfl, hb3⟩
  obtain ⟨l0, l1, -, -⟩ := (JY.out.kept hb3).see
  have b3z := Lib.hid (z.out.trans ((b2.out.trans (hb3.mono b2.out.size)).mono z.out.size))
  clear j0 j1 j2 j3 j4 j5 j6 j7
  clear hb3 FI'
  go_wp2_with fail
  refine (awake06_any _).mono ?_
  rintro e w9 ⟨rfl, hb9⟩
  go_wp2_with fail
  go_ret
  exact ⟨rfl, b3z.out.trans (hb9.mono b3z.out.size)⟩

set_option maxRecDepth 100000 in
set_option maxHeartbeats 16000000 in
theorem denseGoes_ok (W B x G : TV) (w : World) (hW : W.At w) (hB : B.At w) (hx : x.At w) (hWc : W.Cap) (hs : smallC W B x G = true) (hF : fitT W.ss W.cl B.ss B.cl x.ss x.cl = true) :
    Calls Try.prog 3 #[.agg #[.slice W.sa W.sl W.sc, .slice W.ca W.cl W.cc, .slice B.sa B.sl B.sc, .slice B.ca B.cl B.cc, .slice x.sa x.sl x.sc, .slice x.ca x.cl x.cc, .slice G.sa G.sl G.sc, .slice G.ca G.cl G.cc]] w fun e w' => e = .returned (.bool true) ∧ Below w.heap.size w w' := by
  obtain ⟨s1, s2, s3, s4, s5, s6, s7, s8⟩ := smallC_parts hs
  obtain ⟨p1, p2, p3, p4, p5, p6, p7, p8, p9, p10, p11⟩ := fitT_facts hF
  have hWs : W.sl = 2 := by have := hW.1.1; rw [p1] at this; simpa using this.symm
  obtain ⟨b, off, hba, hc0⟩ : ∃ b off, W.sa = some ⟨b, off, none⟩ ∧ w.cell? ⟨b, off, none⟩ = some (.int .i64 B.cl) := by
    rcases hW.1.2.2.2 with h4 | ⟨b, off, ha, hc⟩
    · omega
    · rw [p1] at hc
      exact ⟨b, off, ha, by simpa using hc 0 (by omega)⟩
  have hW1 : 0 < W.cl := rightT_pos p8
  have SM := fun w1 => small6_any W B x G w1
  rw [hs] at SM
  have GO := fun w1 (hb : Below w.heap.size w w1) => dgo_ok W B x w1 (hW.kept hb) (hB.kept hb) (hx.kept hb) hWc hF (by omega)
  have FI := fun w1 (hb : Below w.heap.size w w1) => fits6_any W B x G w1 (hW.kept hb) (hB.kept hb) (hx.kept hb)
  rw [hF] at FI
  have CW := fun w1 (hb : Below w.heap.size w w1) => cells_any W.sa W.sl W.sc W.ca W.cl W.cc W.cs w1 (hW.2.1.kept hb) (by omega)
  have CB := fun w1 (hb : Below w.heap.size w w1) => cells_any B.sa B.sl B.sc B.ca B.cl B.cc B.cs w1 (hB.2.1.kept hb) (by omega)
  have CX := fun w1 (hb : Below w.heap.size w w1) => cells_any x.sa x.sl x.sc x.ca x.cl x.cc x.cs w1 (hx.2.1.kept hb) (by omega)
  have HB := Lib.hid (fun w1 (hb : Below w.heap.size w w1) => hB.kept hb)
  have hf1 := Lib.hid hW.2.1.2.2.1
  have hf2 := Lib.hid hB.2.1.2.2.1
  have hf3 := Lib.hid hx.2.1.2.2.1
  have hfs := Lib.hid hB.1.2.2.1
  have F0 := fun w1 (hb : Below w.heap.size w w1) => cell_later hb hc0
  rw [hba, hWs] at SM GO FI CW
  rw [hba, hWs]
  obtain ⟨m, hm⟩ : ∃ m, B.cl = m := ⟨_, rfl⟩
  obtain ⟨n, hn⟩ : ∃ n, x.cl = n := ⟨_, rfl⟩
  obtain ⟨wl, hwl⟩ : ∃ wl, W.cl = wl := ⟨_, rfl⟩
  obtain ⟨xs, hxs⟩ : ∃ xs, goD B.cl x.cl W.cs B.cs x.cs = xs := ⟨_, rfl⟩
  have hXS := Lib.hid hxs
  have hfx := Lib.hid (show Fits xs by rw [← hxs]; exact goD_fits _ _ _ _ _)
  rw [hxs] at GO
  rw [hwl] at SM GO FI CW p3 hW1 s1 ⊢
  rw [hm] at SM GO FI CB p3 p4 p5 s2 F0 hXS ⊢
  rw [hn] at SM GO FI CX p3 p6 p7 s3 hXS ⊢
  replace SM := Lib.hid SM
  replace GO := Lib.hid GO
  replace FI := Lib.hid FI
  replace CW := Lib.hid CW
  replace CB := Lib.hid CB
  replace CX := Lib.hid CX
  replace F0 := Lib.hid F0
  have hL := Lib.hid p3
  clear hm hn hwl hxs hba hc0 hWs p1 p2 p3 p8 p9 p10 p11 hW hB hx hWc hs hF
  obtain ⟨wA, hwA, J, z, -⟩ := case_box w (.slice (some ⟨b, off, none⟩) 2 W.sc) (.slice W.ca wl W.cc) (.slice B.sa B.sl B.sc) (.slice B.ca m B.cc) (.slice x.sa x.sl x.sc) (.slice x.ca n x.cc) (.slice G.sa G.sl G.sc) (.slice G.ca G.cl G.cc)
  obtain ⟨⟨j0, j1⟩, ⟨j2, j3⟩, ⟨j4, j5⟩, j6, j7⟩ := (J.out).see
  go_enter Try.func3, Try.ntmps3
  go_upto_region 1 with (fail)
  rw [hwA.out]
  go_wp2_with fail
  refine (SM.out wA).mono ?_
  rintro e w1 ⟨rfl, hb1⟩
  have b1 := Lib.hid (z.out.trans (hb1.mono z.out.size))
  have K1 := Lib.hid (J.out.kept hb1)
  clear j0 j1 j2 j3 j4 j5 j6 j7
  clear SM hb1
  obtain ⟨⟨j0, j1⟩, ⟨j2, j3⟩, ⟨j4, j5⟩, j6, j7⟩ := (K1.out).see
  go_wp2_with fail
  refine (GO.out w1 b1.out).mono ?_
  rintro e w2 ⟨v', rfl, Y, yc, Y', yc', rfl, o1, o2, -, hb2⟩
  obtain ⟨wC, hwC, JY, zC, nC⟩ := grid_box w2 (.slice Y B.sl yc) (.slice Y' m yc')
  have k2 := Lib.hid (hb2.trans (zC.out.mono hb2.size))
  have b2 := Lib.hid (b1.out.trans (k2.out.mono b1.out.size))
  have K2 := Lib.hid (K1.out.kept k2.out)
  have TYC := Lib.hid (show TV.At ⟨Y, B.sl, yc, B.ss, Y', m, yc', xs⟩ wC from ⟨(row_ints o1 (show B.sl ≤ 9223372036854775807 by omega) hfs.out).kept zC.out, (row_ints o2 (show m ≤ 9223372036854775807 by omega) hfx.out).kept zC.out, by show B.sl ≤ 17592186044416; omega, by show m ≤ 17592186044416; omega⟩)
  clear j0 j1 j2 j3 j4 j5 j6 j7
  clear hb2 GO o1 o2 K1
  go_upto_region 4 with (fail)
  rw [hwC.out]
  obtain ⟨⟨j0, j1⟩, ⟨j2, j3⟩, ⟨j4, j5⟩, j6, j7⟩ := (K2.out).see
  go_wp2_with fail
  refine (FI.out wC b2.out).mono ?_
  rintro e w3 ⟨rfl, hb3⟩
  have b3 := Lib.hid (b2.out.trans (hb3.mono b2.out.size))
  have K3 := Lib.hid (K2.out.kept hb3)
  have JY3 := Lib.hid (JY.out.kept hb3)
  have TY := Lib.hid (TYC.out.kept hb3)
  clear j0 j1 j2 j3 j4 j5 j6 j7
  clear hb3 FI K2 JY TYC
  go_upto_region 6 with (fail)
  have SK := Lib.hid (fun w' (hb : Below w3.heap.size w3 w') => (show w'.cell? ⟨w2.heap.size, 0, none⟩ = some (.slice Y B.sl yc) ∧ w'.cell? ⟨w2.heap.size, 1, none⟩ = some (.slice Y' m yc') ∧ w'.cell? ⟨w.heap.size, 2, none⟩ = some (.slice B.sa B.sl B.sc) ∧ w'.cell? ⟨w.heap.size, 0, none⟩ = some (.slice (some ⟨b, off, none⟩) 2 W.sc) ∧ w'.cell? ⟨b, off, none⟩ = some (.int .i64 m) ∧ w'.cell? ⟨w.heap.size, 1, none⟩ = some (.slice W.ca wl W.cc) ∧ w'.cell? ⟨w.heap.size, 3, none⟩ = some (.slice B.ca m B.cc) ∧ w'.cell? ⟨w.heap.size, 4, none⟩ = some (.slice x.sa x.sl x.sc) ∧ w'.cell? ⟨w.heap.size, 5, none⟩ = some (.slice x.ca n x.cc) from ⟨(JY3.out.kept hb).see.1, (JY3.out.kept hb).see.2.1, (K3.out.kept hb).see.2.1.1, (K3.out.kept hb).see.1.1, F0.out w' (b3.out.trans (hb.mono b3.out.size)), (K3.out.kept hb).see.1.2, (K3.out.kept hb).see.2.1.2, (K3.out.kept hb).see.2.2.1.1, (K3.out.kept hb).see.2.2.1.2⟩))
  have t1 := Lib.hid (show Below w3.heap.size w3 w3.drew from (Below.refl _ _).drew)
  refine wp_region_held_drew (S := fun w' => w'.cell? ⟨w2.heap.size, 0, none⟩ = some (.slice Y B.sl yc) ∧ w'.cell? ⟨w2.heap.size, 1, none⟩ = some (.slice Y' m yc') ∧ w'.cell? ⟨w.heap.size, 2, none⟩ = some (.slice B.sa B.sl B.sc) ∧ w'.cell? ⟨w.heap.size, 0, none⟩ = some (.slice (some ⟨b, off, none⟩) 2 W.sc) ∧ w'.cell? ⟨b, off, none⟩ = some (.int .i64 m) ∧ w'.cell? ⟨w.heap.size, 1, none⟩ = some (.slice W.ca wl W.cc) ∧ w'.cell? ⟨w.heap.size, 3, none⟩ = some (.slice B.ca m B.cc) ∧ w'.cell? ⟨w.heap.size, 4, none⟩ = some (.slice x.sa x.sl x.sc) ∧ w'.cell? ⟨w.heap.size, 5, none⟩ = some (.slice x.ca n x.cc)) (by kernel_rfl) (SK.out _ t1.out) (fun hHeld => ?_)
  refine held_take 0 (.int .i64 0) rfl (by kernel_rfl) (by kernel_rfl) (by kernel_rfl) (fun _ _ _ h => h) (by rfl) (by intro w' hS; go_simp) (by assumption) ?_
  try simp only [Act.put, List.setIfInBounds_toArray, List.set_cons_zero, List.set_cons_succ]
  refine held_take 1 (.bool true) rfl (by kernel_rfl) (by kernel_rfl) (by kernel_rfl) (fun _ _ _ h => h) (by rfl) (by intro w' hS; go_simp) (by assumption) ?_
  try simp only [Act.put, List.setIfInBounds_toArray, List.set_cons_zero, List.set_cons_succ]
  refine held_take 2 (.bool true) rfl (by kernel_rfl) (by kernel_rfl) (by kernel_rfl) (fun _ _ _ h => h) (by rfl) (by intro w' hS; go_simp) (by assumption) ?_
  try simp only [Act.put, List.setIfInBounds_toArray, List.set_cons_zero, List.set_cons_succ]
  refine held_take 3 (.agg #[.slice Y B.sl yc, .slice Y' m yc']) rfl (by kernel_rfl) (by kernel_rfl) (by kernel_rfl) (fun _ _ _ h => h) (by rfl) (by intro w' hS; go_simp) (by assumption) ?_
  try simp only [Act.put, List.setIfInBounds_toArray, List.set_cons_zero, List.set_cons_succ]
  refine held_take 4 (.pointer (some ⟨w.heap.size, 2, none⟩)) rfl (by kernel_rfl) (by kernel_rfl) (by kernel_rfl) (fun _ _ _ h => h) (by rfl) (by intro w' hS; go_simp) (by assumption) ?_
  try simp only [Act.put, List.setIfInBounds_toArray, List.set_cons_zero, List.set_cons_succ]
  refine held_take 5 (.pointer (some ⟨w.heap.size, 2, none⟩)) rfl (by kernel_rfl) (by kernel_rfl) (by kernel_rfl) (fun _ _ _ h => h) (by rfl) (by intro w' hS; go_simp) (by assumption) ?_
  try simp only [Act.put, List.setIfInBounds_toArray, List.set_cons_zero, List.set_cons_succ]
  refine held_take 6 (.slice B.sa B.sl B.sc) rfl (by kernel_rfl) (by kernel_rfl) (by kernel_rfl) (fun _ _ _ h => h) (by rfl) (by intro w' hS; go_simp) (by assumption) ?_
  try simp only [Act.put, List.setIfInBounds_toArray, List.set_cons_zero, List.set_cons_succ]
  refine held_take 7 (.pointer (some ⟨w.heap.size, 0, none⟩)) rfl (by kernel_rfl) (by kernel_rfl) (by kernel_rfl) (fun _ _ _ h => h) (by rfl) (by intro w' hS; go_simp) (by assumption) ?_
  try simp only [Act.put, List.setIfInBounds_toArray, List.set_cons_zero, List.set_cons_succ]
  refine held_take 8 (.pointer (some ⟨w.heap.size, 0, none⟩)) rfl (by kernel_rfl) (by kernel_rfl) (by kernel_rfl) (fun _ _ _ h => h) (by rfl) (by intro w' hS; go_simp) (by assumption) ?_
  try simp only [Act.put, List.setIfInBounds_toArray, List.set_cons_zero, List.set_cons_succ]
  refine held_take 9 (.slice (some ⟨b, off, none⟩) 2 W.sc) rfl (by kernel_rfl) (by kernel_rfl) (by kernel_rfl) (fun _ _ _ h => h) (by rfl) (by intro w' hS; go_simp) (by assumption) ?_
  try simp only [Act.put, List.setIfInBounds_toArray, List.set_cons_zero, List.set_cons_succ]
  refine held_take 10 (.pointer (some ⟨b, off, none⟩)) rfl (by kernel_rfl) (by kernel_rfl) (by kernel_rfl) (fun _ _ _ h => h) (by rfl) (by intro w' hS; go_simp) (by assumption) ?_
  try simp only [Act.put, List.setIfInBounds_toArray, List.set_cons_zero, List.set_cons_succ]
  refine held_take 11 (.int .i64 m) rfl (by kernel_rfl) (by kernel_rfl) (by kernel_rfl) (fun _ _ _ h => h) (by rfl) (by intro w' hS; go_simp) (by assumption) ?_
  try simp only [Act.put, List.setIfInBounds_toArray, List.set_cons_zero, List.set_cons_succ]
  refine held_take 12 (.pointer (some ⟨w.heap.size, 0, none⟩)) rfl (by kernel_rfl) (by kernel_rfl) (by kernel_rfl) (fun _ _ _ h => h) (by rfl) (by intro w' hS; go_simp) (by assumption) ?_
  try simp only [Act.put, List.setIfInBounds_toArray, List.set_cons_zero, List.set_cons_succ]
  refine held_take 13 (.agg #[.slice (some ⟨b, off, none⟩) 2 W.sc, .slice W.ca wl W.cc]) rfl (by kernel_rfl) (by kernel_rfl) (by kernel_rfl) (fun _ _ _ h => h) (by rfl) (by intro w' hS; go_simp) (by assumption) ?_
  try simp only [Act.put, List.setIfInBounds_toArray, List.set_cons_zero, List.set_cons_succ]
  refine held_take 15 (.pointer (some ⟨w.heap.size, 2, none⟩)) rfl (by kernel_rfl) (by kernel_rfl) (by kernel_rfl) (fun _ _ _ h => h) (by rfl) (by intro w' hS; go_simp) (by assumption) ?_
  try simp only [Act.put, List.setIfInBounds_toArray, List.set_cons_zero, List.set_cons_succ]
  refine held_take 16 (.agg #[.slice B.sa B.sl B.sc, .slice B.ca m B.cc]) rfl (by kernel_rfl) (by kernel_rfl) (by kernel_rfl) (fun _ _ _ h => h) (by rfl) (by intro w' hS; go_simp) (by assumption) ?_
  try simp only [Act.put, List.setIfInBounds_toArray, List.set_cons_zero, List.set_cons_succ]
  refine held_take 18 (.pointer (some ⟨w.heap.size, 4, none⟩)) rfl (by kernel_rfl) (by kernel_rfl) (by kernel_rfl) (fun _ _ _ h => h) (by rfl) (by intro w' hS; go_simp) (by assumption) ?_
  try simp only [Act.put, List.setIfInBounds_toArray, List.set_cons_zero, List.set_cons_succ]
  refine held_take 19 (.agg #[.slice x.sa x.sl x.sc, .slice x.ca n x.cc]) rfl (by kernel_rfl) (by kernel_rfl) (by kernel_rfl) (fun _ _ _ h => h) (by rfl) (by intro w' hS; go_simp) (by assumption) ?_
  try simp only [Act.put, List.setIfInBounds_toArray, List.set_cons_zero, List.set_cons_succ]
  refine held_call 14 (by kernel_rfl) rfl (by rfl) (fun K hK => ?_)
  go_simp
  refine (CW.out w3.drew (b3.out.trans (t1.out.mono b3.out.size))).mono ?_
  rintro e wq1 ⟨A1, p1, rfl, oc, hb⟩
  have bq1 := Lib.hid (t1.out.trans ((hb).mono t1.out.size))
  obtain ⟨g1, p1', hv1⟩ := Joins.ownsRow_form oc (by omega)
  simp only [Value.slice.injEq] at hv1
  obtain ⟨rfl, -, rfl⟩ := hv1
  have i1 := Lib.hid (row_ints oc (show wl ≤ 9223372036854775807 by omega) hf1.out)
  have kk1 := Lib.hid hb
  clear oc
  go_wp2_with fail
  refine hK.out _ _ (SK.out _ bq1.out) (fun hHeld => ?_)
  try simp only [Act.put, List.setIfInBounds_toArray, List.set_cons_zero, List.set_cons_succ]
  refine held_call 17 (by kernel_rfl) rfl (by rfl) (fun K hK => ?_)
  go_simp
  refine (CB.out wq1 (b3.out.trans (bq1.out.mono b3.out.size))).mono ?_
  rintro e wq2 ⟨A2, p2, rfl, oc, hb⟩
  have bq2 := Lib.hid (bq1.out.trans ((hb).mono bq1.out.size))
  obtain ⟨g2, p2', hv2⟩ := Joins.ownsRow_form oc (by omega)
  simp only [Value.slice.injEq] at hv2
  obtain ⟨rfl, -, rfl⟩ := hv2
  have i2 := Lib.hid (row_ints oc (show m ≤ 9223372036854775807 by omega) hf2.out)
  have kk2 := Lib.hid hb
  clear oc
  go_wp2_with fail
  refine hK.out _ _ (SK.out _ bq2.out) (fun hHeld => ?_)
  try simp only [Act.put, List.setIfInBounds_toArray, List.set_cons_zero, List.set_cons_succ]
  refine held_call 20 (by kernel_rfl) rfl (by rfl) (fun K hK => ?_)
  go_simp
  refine (CX.out wq2 (b3.out.trans (bq2.out.mono b3.out.size))).mono ?_
  rintro e wq3 ⟨A3, p3, rfl, oc, hb⟩
  have bq3 := Lib.hid (bq2.out.trans ((hb).mono bq2.out.size))
  obtain ⟨g3, p3', hv3⟩ := Joins.ownsRow_form oc (by omega)
  simp only [Value.slice.injEq] at hv3
  obtain ⟨rfl, -, rfl⟩ := hv3
  have i3 := Lib.hid (row_ints oc (show n ≤ 9223372036854775807 by omega) hf3.out)
  have kk3 := Lib.hid hb
  clear oc
  go_wp2_with fail
  refine hK.out _ _ (SK.out _ bq3.out) (fun hHeld => ?_)
  try simp only [Act.put, List.setIfInBounds_toArray, List.set_cons_zero, List.set_cons_succ]
  refine held_call 21 (by kernel_rfl) rfl (by rfl) (fun K hK => ?_)
  go_simp
  refine (refgo_any m n wl g1 0 p1 g2 0 p2 g3 0 p3 W.cs B.cs x.cs wq3 ((i1.out.kept kk2.out).kept kk3.out) hL.out (i2.out.kept kk3.out) i3.out (by omega) (by omega)).mono ?_
  rintro e wq4 ⟨A4, p4, rfl, oc, hb⟩
  have bq4 := Lib.hid (bq3.out.trans ((hb).mono bq3.out.size))
  obtain ⟨g4, p4', hv4⟩ := Joins.ownsRow_form oc (by omega)
  simp only [Value.slice.injEq] at hv4
  obtain ⟨rfl, -, rfl⟩ := hv4
  have i4 := row_ints oc (show m ≤ 9223372036854775807 by omega) (goD_fits _ _ _ _ _)
  rw [hXS.out] at i4
  replace i4 := Lib.hid i4
  clear oc
  go_wp2_with fail
  refine hK.out _ _ (SK.out _ bq4.out) (fun hHeld => ?_)
  try simp only [Act.put, List.setIfInBounds_toArray, List.set_cons_zero, List.set_cons_succ]
  refine held_call 22 (by kernel_rfl) rfl (by rfl) (fun K hK => ?_)
  go_simp
  refine (same6_any ⟨Y, B.sl, yc, B.ss, Y', m, yc', xs⟩ B.sa B.sl B.sc (some ⟨g4, 0, none⟩) p4 wq4 (TY.out.kept bq4.out) ((HB.out wq4 (b3.out.trans (bq4.out.mono b3.out.size))).1) i4.out).mono ?_
  rintro e wq5 ⟨rfl, hb⟩
  have bq5 := Lib.hid (bq4.out.trans ((hb).mono bq4.out.size))
  go_wp2_with fail
  refine hK.out _ _ (SK.out _ bq5.out) (fun hHeld => ?_)
  try simp only [Act.put, List.setIfInBounds_toArray, List.set_cons_zero, List.set_cons_succ]
  refine held_take 23 (.bool true) rfl (by kernel_rfl) (by kernel_rfl) (by kernel_rfl) (fun _ _ _ h => h) (by rfl) (by intro w' hS; go_simp) (by assumption) ?_
  try simp only [Act.put, List.setIfInBounds_toArray, List.set_cons_zero, List.set_cons_succ]
  refine held_take 24 (.bool true) rfl (by kernel_rfl) (by kernel_rfl) (by kernel_rfl) (fun _ _ _ h => h) (by rfl) (by intro w' hS; go_simp) (by assumption) ?_
  try simp only [Act.put, List.setIfInBounds_toArray, List.set_cons_zero, List.set_cons_succ]
  refine held_call 25 (by kernel_rfl) rfl (by rfl) (fun K hK => ?_)
  go_simp
  refine (awake06_any wq5).mono ?_
  rintro e wq6 ⟨rfl, hb⟩
  have bq6 := Lib.hid (bq5.out.trans ((hb).mono bq5.out.size))
  go_wp2_with fail
  refine hK.out _ _ (SK.out _ bq6.out) (fun hHeld => ?_)
  try simp only [Act.put, List.setIfInBounds_toArray, List.set_cons_zero, List.set_cons_succ]
  refine held_take 26 (.bool true) rfl (by kernel_rfl) (by kernel_rfl) (by kernel_rfl) (fun _ _ _ h => h) (by rfl) (by intro w' hS; go_simp) (by assumption) ?_
  try simp only [Act.put, List.setIfInBounds_toArray, List.set_cons_zero, List.set_cons_succ]
  refine held_take 27 (.bool true) rfl (by kernel_rfl) (by kernel_rfl) (by kernel_rfl) (fun _ _ _ h => h) (by rfl) (by intro w' hS; go_simp) (by assumption) ?_
  try simp only [Act.put, List.setIfInBounds_toArray, List.set_cons_zero, List.set_cons_succ]
  refine wpAnyH_done (by kernel_rfl) ?_ _
  go_wp2_with fail
  go_ret
  exact ⟨rfl, b3.out.trans (bq6.out.mono b3.out.size)⟩

theorem denseGoes_walk (W B x G : TV) (w : World) (hW : W.At w ∧ W.Cap) (hB : B.At w ∧ B.Cap) (hx : x.At w ∧ x.Cap) (hG : G.At w ∧ G.Cap) :
    Calls Try.prog 3 #[.agg #[.slice W.sa W.sl W.sc, .slice W.ca W.cl W.cc, .slice B.sa B.sl B.sc, .slice B.ca B.cl B.cc, .slice x.sa x.sl x.sc, .slice x.ca x.cl x.cc, .slice G.sa G.sl G.sc, .slice G.ca G.cl G.cc]] w fun e w' => e = .returned (.bool true) ∧ Below w.heap.size w w' := by
  cases hs : smallC W B x G
  · exact denseGoes_small W B x G w hs
  cases hF : fitT W.ss W.cl B.ss B.cl x.ss x.cl
  · exact denseGoes_bad W B x G w hW.1 hB.1 hx.1 hs hF
  · exact denseGoes_ok W B x G w hW.1 hB.1 hx.1 hW.2 hs hF
end Go.Proofs.Ytlpecdfiagklpaa
