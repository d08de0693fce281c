/-
  The walk of the statement DenseBacks.
-/
import Derived.Test.YtlpecdfiagklpaaAwake06
import Derived.Test.YtlpecdfiagklpaaDenseR
namespace Go.Proofs.Ytlpecdfiagklpaa
open Go.RowKit
set_option linter.unusedVariables false
set_option linter.unusedSimpArgs false

set_option maxRecDepth 100000 in
set_option maxHeartbeats 8000000 in
theorem denseBacks_small (W B x G : TV) (w : World) (hs : smallC W B x G = false) :
    Calls Try.prog 4 #[.agg #[.slice W.sa W.sl W.sc, .slice W.ca W.cl W.cc, .slice B.sa B.sl B.sc, .slice B.ca B.cl B.cc, .slice x.sa x.sl x.sc, .slice x.ca x.cl x.cc, .slice G.sa G.sl G.sc, .slice G.ca G.cl G.cc]] w fun e w' => e = .returned (.bool true) ∧ Below w.heap.size w w' := by
  obtain ⟨wA, hwA, J, z, -⟩ := case_box w (.slice W.sa W.sl W.sc) (.slice W.ca W.cl W.cc) (.slice B.sa B.sl B.sc) (.slice B.ca B.cl B.cc) (.slice x.sa x.sl x.sc) (.slice x.ca x.cl x.cc) (.slice G.sa G.sl G.sc) (.slice G.ca G.cl G.cc)
  have SM := small6_any W B x G wA
  rw [hs] at SM
  have SM' := Lib.hid SM
  clear SM hs
  obtain ⟨⟨j0, j1⟩, ⟨j2, j3⟩, ⟨j4, j5⟩, j6, j7⟩ := (J.out).see
  go_enter Try.func4, Try.ntmps4
  go_upto_region 1 with (fail)
  rw [hwA.out]
  go_wp2_with fail
  refine SM'.out.mono ?_
  rintro e w1 ⟨rfl, hb1⟩
  have b1z := Lib.hid (z.out.trans (hb1.mono z.out.size))
  clear j0 j1 j2 j3 j4 j5 j6 j7
  clear SM' hb1
  go_wp2_with fail
  refine (awake06_any _).mono ?_
  rintro e w9 ⟨rfl, hb9⟩
  go_wp2_with fail
  go_ret
  exact ⟨rfl, b1z.out.trans (hb9.mono b1z.out.size)⟩

set_option maxRecDepth 100000 in
set_option maxHeartbeats 8000000 in
theorem denseBacks_bad1 (W B x G : TV) (w : World) (hW : W.At w) (hB : B.At w) (hx : x.At w) (hG : G.At w) (hs : smallC W B x G = true) (hF : fitT W.ss W.cl B.ss B.cl x.ss x.cl = false) :
    Calls Try.prog 4 #[.agg #[.slice W.sa W.sl W.sc, .slice W.ca W.cl W.cc, .slice B.sa B.sl B.sc, .slice B.ca B.cl B.cc, .slice x.sa x.sl x.sc, .slice x.ca x.cl x.cc, .slice G.sa G.sl G.sc, .slice G.ca G.cl G.cc]] w fun e w' => e = .returned (.bool true) ∧ Below w.heap.size w w' := by
  obtain ⟨wA, hwA, J, z, -⟩ := case_box w (.slice W.sa W.sl W.sc) (.slice W.ca W.cl W.cc) (.slice B.sa B.sl B.sc) (.slice B.ca B.cl B.cc) (.slice x.sa x.sl x.sc) (.slice x.ca x.cl x.cc) (.slice G.sa G.sl G.sc) (.slice G.ca G.cl G.cc)
  have SM := small6_any W B x G wA
  rw [hs] at SM
  have SM' := Lib.hid SM
  have GO := Lib.hid (fun w1 (hb : Below wA.heap.size wA w1) => dback_no1 W B x G w1 ((hW.kept z.out).kept hb) ((hB.kept z.out).kept hb) ((hx.kept z.out).kept hb) hF)
  have FI := fun w1 (hb : Below wA.heap.size wA w1) => fits6_any W B x G w1 ((hW.kept z.out).kept hb) ((hB.kept z.out).kept hb) ((hx.kept z.out).kept hb)
  have RG := fun w1 (hb : Below wA.heap.size wA w1) => rright_any G.sa G.sl G.sc G.ss G.ca G.cl G.cc w1 ((hG.kept z.out).kept hb).1 (by have := hG.2.2.2; omega)
  have SG := fun w1 (hb : Below wA.heap.size wA w1) => same_any G.sa G.sl G.sc G.ss B.sa B.sl B.sc B.ss w1 ((hG.kept z.out).kept hb).1 ((hB.kept z.out).kept hb).1
  rw [hF] at FI
  replace FI := Lib.hid FI
  clear SM hs RG SG hW hB hx hG hF
  obtain ⟨⟨j0, j1⟩, ⟨j2, j3⟩, ⟨j4, j5⟩, j6, j7⟩ := (J.out).see
  go_enter Try.func4, Try.ntmps4
  go_upto_region 1 with (fail)
  rw [hwA.out]
  go_wp2_with fail
  refine SM'.out.mono ?_
  rintro e w1 ⟨rfl, hb1⟩
  have b1 := Lib.hid hb1
  clear j0 j1 j2 j3 j4 j5 j6 j7
  clear SM' hb1
  obtain ⟨⟨j0, j1⟩, ⟨j2, j3⟩, ⟨j4, j5⟩, j6, j7⟩ := (J.out.kept b1.out).see
  go_wp2_with fail
  refine (GO.out w1 b1.out).mono ?_
  rintro e w2 ⟨rfl, hb2⟩
  obtain ⟨wC, hwC, JY, zC, nC⟩ := grads_box w2 (.slice none 0 0) (.slice none 0 0) (.slice none 0 0) (.slice none 0 0) (.slice none 0 0) (.slice none 0 0)
  have b2 := Lib.hid (b1.out.trans ((hb2.trans (zC.out.mono hb2.size)).mono b1.out.size))
  clear j0 j1 j2 j3 j4 j5 j6 j7
  clear hb2 GO
  go_upto_region 4 with (fail)
  rw [hwC.out]
  obtain ⟨⟨j0, j1⟩, ⟨j2, j3⟩, ⟨j4, j5⟩, j6, j7⟩ := (J.out.kept b2.out).see
  go_wp2_with fail
  refine (FI.out wC b2.out).mono ?_
  rintro e w3 ⟨rfl, hb3⟩
  obtain ⟨l0, l1, l2, l3, l4, l5⟩ := (JY.out.kept hb3).see
  have b3z := Lib.hid (z.out.trans ((b2.out.trans (hb3.mono b2.out.size)).mono z.out.size))
  clear j0 j1 j2 j3 j4 j5 j6 j7
  clear hb3 FI
  go_wp2_with fail
  refine (awake06_any _).mono ?_
  rintro e w9 ⟨rfl, hb9⟩
  go_wp2_with fail
  go_ret
  exact ⟨rfl, b3z.out.trans (hb9.mono b3z.out.size)⟩

set_option maxRecDepth 100000 in
set_option maxHeartbeats 8000000 in
theorem denseBacks_bad2 (W B x G : TV) (w : World) (hW : W.At w) (hB : B.At w) (hx : x.At w) (hG : G.At w) (hs : smallC W B x G = true) (hF : fitT W.ss W.cl B.ss B.cl x.ss x.cl = true) (hO : outT (W.ss.getD 0 0) G.ss G.cl = false) (hR : rightT G.ss G.cl = false) :
    Calls Try.prog 4 #[.agg #[.slice W.sa W.sl W.sc, .slice W.ca W.cl W.cc, .slice B.sa B.sl B.sc, .slice B.ca B.cl B.cc, .slice x.sa x.sl x.sc, .slice x.ca x.cl x.cc, .slice G.sa G.sl G.sc, .slice G.ca G.cl G.cc]] w fun e w' => e = .returned (.bool true) ∧ Below w.heap.size w w' := by
  obtain ⟨wA, hwA, J, z, -⟩ := case_box w (.slice W.sa W.sl W.sc) (.slice W.ca W.cl W.cc) (.slice B.sa B.sl B.sc) (.slice B.ca B.cl B.cc) (.slice x.sa x.sl x.sc) (.slice x.ca x.cl x.cc) (.slice G.sa G.sl G.sc) (.slice G.ca G.cl G.cc)
  have SM := small6_any W B x G wA
  rw [hs] at SM
  have SM' := Lib.hid SM
  have GO := Lib.hid (fun w1 (hb : Below wA.heap.size wA w1) => dback_no2 W B x G w1 ((hW.kept z.out).kept hb) ((hB.kept z.out).kept hb) ((hx.kept z.out).kept hb) ((hG.kept z.out).kept hb) hF hO)
  have FI := fun w1 (hb : Below wA.heap.size wA w1) => fits6_any W B x G w1 ((hW.kept z.out).kept hb) ((hB.kept z.out).kept hb) ((hx.kept z.out).kept hb)
  have RG := fun w1 (hb : Below wA.heap.size wA w1) => rright_any G.sa G.sl G.sc G.ss G.ca G.cl G.cc w1 ((hG.kept z.out).kept hb).1 (by have := hG.2.2.2; omega)
  have SG := fun w1 (hb : Below wA.heap.size wA w1) => same_any G.sa G.sl G.sc G.ss B.sa B.sl B.sc B.ss w1 ((hG.kept z.out).kept hb).1 ((hB.kept z.out).kept hb).1
  rw [hF] at FI
  replace FI := Lib.hid FI
  rw [hR] at RG
  replace RG := Lib.hid RG
  clear SM hs SG hW hB hx hG hF hO hR
  obtain ⟨⟨j0, j1⟩, ⟨j2, j3⟩, ⟨j4, j5⟩, j6, j7⟩ := (J.out).see
  go_enter Try.func4, Try.ntmps4
  go_upto_region 1 with (fail)
  rw [hwA.out]
  go_wp2_with fail
  refine SM'.out.mono ?_
  rintro e w1 ⟨rfl, hb1⟩
  have b1 := Lib.hid hb1
  clear j0 j1 j2 j3 j4 j5 j6 j7
  clear SM' hb1
  obtain ⟨⟨j0, j1⟩, ⟨j2, j3⟩, ⟨j4, j5⟩, j6, j7⟩ := (J.out.kept b1.out).see
  go_wp2_with fail
  refine (GO.out w1 b1.out).mono ?_
  rintro e w2 ⟨rfl, hb2⟩
  obtain ⟨wC, hwC, JY, zC, nC⟩ := grads_box w2 (.slice none 0 0) (.slice none 0 0) (.slice none 0 0) (.slice none 0 0) (.slice none 0 0) (.slice none 0 0)
  have b2 := Lib.hid (b1.out.trans ((hb2.trans (zC.out.mono hb2.size)).mono b1.out.size))
  clear j0 j1 j2 j3 j4 j5 j6 j7
  clear hb2 GO
  go_upto_region 4 with (fail)
  rw [hwC.out]
  obtain ⟨⟨j0, j1⟩, ⟨j2, j3⟩, ⟨j4, j5⟩, j6, j7⟩ := (J.out.kept b2.out).see
  go_wp2_with fail
  refine (FI.out wC b2.out).mono ?_
  rintro e w3 ⟨rfl, hb3⟩
  have b3 := Lib.hid (b2.out.trans (hb3.mono b2.out.size))
  have JY3 := Lib.hid (JY.out.kept hb3)
  clear j0 j1 j2 j3 j4 j5 j6 j7
  clear hb3 FI
  obtain ⟨⟨j0, j1⟩, ⟨j2, j3⟩, ⟨j4, j5⟩, j6, j7⟩ := (J.out.kept b3.out).see
  go_wp2_with fail
  refine (RG.out w3 b3.out).mono ?_
  rintro e w4 ⟨rfl, hb4⟩
  obtain ⟨l0, l1, l2, l3, l4, l5⟩ := (JY3.out.kept hb4).see
  have b4z := Lib.hid (z.out.trans ((b3.out.trans (hb4.mono b3.out.size)).mono z.out.size))
  clear j0 j1 j2 j3 j4 j5 j6 j7
  clear hb4 RG
  go_wp2_with fail
  refine (awake06_any _).mono ?_
  rintro e w9 ⟨rfl, hb9⟩
  go_wp2_with fail
  go_ret
  exact ⟨rfl, b4z.out.trans (hb9.mono b4z.out.size)⟩

set_option maxRecDepth 100000 in
set_option maxHeartbeats 8000000 in
theorem denseBacks_bad3 (W B x G : TV) (w : World) (hW : W.At w) (hB : B.At w) (hx : x.At w) (hG : G.At w) (hs : smallC W B x G = true) (hF : fitT W.ss W.cl B.ss B.cl x.ss x.cl = true) (hO : outT (W.ss.getD 0 0) G.ss G.cl = false) (hR : rightT G.ss G.cl = true) (hS : sameL G.ss B.ss = false) :
    Calls Try.prog 4 #[.agg #[.slice W.sa W.sl W.sc, .slice W.ca W.cl W.cc, .slice B.sa B.sl B.sc, .slice B.ca B.cl B.cc, .slice x.sa x.sl x.sc, .slice x.ca x.cl x.cc, .slice G.sa G.sl G.sc, .slice G.ca G.cl G.cc]] w fun e w' => e = .returned (.bool true) ∧ Below w.heap.size w w' := by
  obtain ⟨wA, hwA, J, z, -⟩ := case_box w (.slice W.sa W.sl W.sc) (.slice W.ca W.cl W.cc) (.slice B.sa B.sl B.sc) (.slice B.ca B.cl B.cc) (.slice x.sa x.sl x.sc) (.slice x.ca x.cl x.cc) (.slice G.sa G.sl G.sc) (.slice G.ca G.cl G.cc)
  have SM := small6_any W B x G wA
  rw [hs] at SM
  have SM' := Lib.hid SM
  have GO := Lib.hid (fun w1 (hb : Below wA.heap.size wA w1) => dback_no2 W B x G w1 ((hW.kept z.out).kept hb) ((hB.kept z.out).kept hb) ((hx.kept z.out).kept hb) ((hG.kept z.out).kept hb) hF hO)
  have FI := fun w1 (hb : Below wA.heap.size wA w1) => fits6_any W B x G w1 ((hW.kept z.out).kept hb) ((hB.kept z.out).kept hb) ((hx.kept z.out).kept hb)
  have RG := fun w1 (hb : Below wA.heap.size wA w1) => rright_any G.sa G.sl G.sc G.ss G.ca G.cl G.cc w1 ((hG.kept z.out).kept hb).1 (by have := hG.2.2.2; omega)
  have SG := fun w1 (hb : Below wA.heap.size wA w1) => same_any G.sa G.sl G.sc G.ss B.sa B.sl B.sc B.ss w1 ((hG.kept z.out).kept hb).1 ((hB.kept z.out).kept hb).1
  rw [hF] at FI
  replace FI := Lib.hid FI
  rw [hR] at RG
  replace RG := Lib.hid RG
  rw [hS] at SG
  replace SG := Lib.hid SG
  clear SM hs hW hB hx hG hF hO hR hS
  obtain ⟨⟨j0, j1⟩, ⟨j2, j3⟩, ⟨j4, j5⟩, j6, j7⟩ := (J.out).see
  go_enter Try.func4, Try.ntmps4
  go_upto_region 1 with (fail)
  rw [hwA.out]
  go_wp2_with fail
  refine SM'.out.mono ?_
  rintro e w1 ⟨rfl, hb1⟩
  have b1 := Lib.hid hb1
  clear j0 j1 j2 j3 j4 j5 j6 j7
  clear SM' hb1
  obtain ⟨⟨j0, j1⟩, ⟨j2, j3⟩, ⟨j4, j5⟩, j6, j7⟩ := (J.out.kept b1.out).see
  go_wp2_with fail
  refine (GO.out w1 b1.out).mono ?_
  rintro e w2 ⟨rfl, hb2⟩
  obtain ⟨wC, hwC, JY, zC, nC⟩ := grads_box w2 (.slice none 0 0) (.slice none 0 0) (.slice none 0 0) (.slice none 0 0) (.slice none 0 0) (.slice none 0 0)
  have b2 := Lib.hid (b1.out.trans ((hb2.trans (zC.out.mono hb2.size)).mono b1.out.size))
  clear j0 j1 j2 j3 j4 j5 j6 j7
  clear hb2 GO
  go_upto_region 4 with (fail)
  rw [hwC.out]
  obtain ⟨⟨j0, j1⟩, ⟨j2, j3⟩, ⟨j4, j5⟩, j6, j7⟩ := (J.out.kept b2.out).see
  go_wp2_with fail
  refine (FI.out wC b2.out).mono ?_
  rintro e w3 ⟨rfl, hb3⟩
  have b3 := Lib.hid (b2.out.trans (hb3.mono b2.out.size))
  have JY3 := Lib.hid (JY.out.kept hb3)
  clear j0 j1 j2 j3 j4 j5 j6 j7
  clear hb3 FI
  obtain ⟨⟨j0, j1⟩, ⟨j2, j3⟩, ⟨j4, j5⟩, j6, j7⟩ := (J.out.kept b3.out).see
  go_wp2_with fail
  refine (RG.out w3 b3.out).mono ?_
  rintro e w4 ⟨rfl, hb4⟩
  have b4 := Lib.hid (b3.out.trans (hb4.mono b3.out.size))
  have JY4 := Lib.hid (JY3.out.kept hb4)
  clear j0 j1 j2 j3 j4 j5 j6 j7
  clear hb4 RG
  obtain ⟨⟨j0, j1⟩, ⟨j2, j3⟩, ⟨j4, j5⟩, j6, j7⟩ := (J.out.kept b4.out).see
  go_wp2_with fail
  refine (SG.out w4 b4.out).mono ?_
  rintro e w5 ⟨rfl, nq, rfl⟩
  obtain ⟨l0, l1, l2, l3, l4, l5⟩ := (JY4.out.kept (below_drewN' (Below.refl _ _) nq)).see
  have b5z := Lib.hid (z.out.trans ((below_drewN' b4.out nq).mono z.out.size))
  clear j0 j1 j2 j3 j4 j5 j6 j7
  clear SG
  go_wp2_with fail
  refine (awake06_any _).mono ?_
  rintro e w9 ⟨rfl, hb9⟩
  go_wp2_with fail
  go_ret
  exact ⟨rfl, b5z.out.trans (hb9.mono b5z.out.size)⟩

set_option maxRecDepth 100000 in
set_option maxHeartbeats 16000000 in
theorem denseBacks_ok (W B x G : TV) (w : World) (hW : W.At w) (hB : B.At w) (hx : x.At w) (hG : G.At w) (hWc : W.Cap) (hs : smallC W B x G = true) (hF : fitT W.ss W.cl B.ss B.cl x.ss x.cl = true) (hO : outT (W.ss.getD 0 0) G.ss G.cl = true) :
    Calls Try.prog 4 #[.agg #[.slice W.sa W.sl W.sc, .slice W.ca W.cl W.cc, .slice B.sa B.sl B.sc, .slice B.ca B.cl B.cc, .slice x.sa x.sl x.sc, .slice x.ca x.cl x.cc, .slice G.sa G.sl G.sc, .slice G.ca G.cl G.cc]] w fun e w' => e = .returned (.bool true) ∧ Below w.heap.size w w' := by
  obtain ⟨s1, s2, s3, s4, s5, s6, s7, s8⟩ := smallC_parts hs
  obtain ⟨p1, p2, p3, p4, p5, p6, p7, p8, p9, p10, p11⟩ := fitT_facts hF
  have hR : rightT G.ss G.cl = true ∧ G.ss = B.ss := by
    unfold outT at hO
    rw [Bool.and_eq_true] at hO
    have e := sameL_eq hO.2
    rw [p1] at e
    exact ⟨hO.1, by rw [e, p2]; simp⟩
  have hGm : G.cl = B.cl := by
    have h1 := (rightT_parts hR.1).2
    have h2 := (rightT_parts p9).2
    rw [hR.2] at h1
    omega
  have hW1 : 0 < W.cl := rightT_pos p8
  have SM := fun w1 => small6_any W B x G w1
  rw [hs] at SM
  have GO := fun w1 (hb : Below w.heap.size w w1) => dback_ok W B x G w1 (hW.kept hb) (hB.kept hb) (hx.kept hb) (hG.kept hb) hWc hF hO (by omega) (by omega) (by omega)
  have FI := fun w1 (hb : Below w.heap.size w w1) => fits6_any W B x G w1 (hW.kept hb) (hB.kept hb) (hx.kept hb)
  rw [hF] at FI
  have RG := fun w1 (hb : Below w.heap.size w w1) => rright_any G.sa G.sl G.sc G.ss G.ca G.cl G.cc w1 (hG.kept hb).1 (by omega)
  rw [hR.1] at RG
  have SG := fun w1 (hb : Below w.heap.size w w1) => same_any G.sa G.sl G.sc G.ss B.sa B.sl B.sc B.ss w1 (hG.kept hb).1 (hB.kept hb).1
  rw [hR.2, sameL_self] at SG
  have CW := fun w1 (hb : Below w.heap.size w w1) => cells_any W.sa W.sl W.sc W.ca W.cl W.cc W.cs w1 (hW.2.1.kept hb) (by omega)
  have CG := fun w1 (hb : Below w.heap.size w w1) => cells_any G.sa G.sl G.sc G.ca G.cl G.cc G.cs w1 (hG.2.1.kept hb) (by omega)
  have CX := fun w1 (hb : Below w.heap.size w w1) => cells_any x.sa x.sl x.sc x.ca x.cl x.cc x.cs w1 (hx.2.1.kept hb) (by omega)
  have HW := Lib.hid (fun w1 (hb : Below w.heap.size w w1) => hW.kept hb)
  have HB := Lib.hid (fun w1 (hb : Below w.heap.size w w1) => hB.kept hb)
  have HX := Lib.hid (fun w1 (hb : Below w.heap.size w w1) => hx.kept hb)
  have hfW := Lib.hid hW.2.1.2.2.1
  have hfX := Lib.hid hx.2.1.2.2.1
  have hfG := Lib.hid hG.2.1.2.2.1
  have hGl := hG.2.1.1
  have hXl := hx.2.1.1
  have hGss := hR.2
  obtain ⟨m, hm⟩ : ∃ m, B.cl = m := ⟨_, rfl⟩
  obtain ⟨n, hn⟩ : ∃ n, x.cl = n := ⟨_, rfl⟩
  obtain ⟨wl, hwl⟩ : ∃ wl, W.cl = wl := ⟨_, rfl⟩
  rw [hm] at hGm
  rw [hGm] at SM GO FI RG CG hGl ⊢
  rw [hwl] at SM GO FI CW p3 hW1 s1 ⊢
  rw [hm] at SM GO FI p3 p4 p5 s2 ⊢
  rw [hn] at SM GO FI CX p3 p6 p7 s3 hXl ⊢
  rw [hGss] at GO
  replace SM := Lib.hid SM
  replace GO := Lib.hid GO
  replace FI := Lib.hid FI
  replace RG := Lib.hid RG
  replace SG := Lib.hid SG
  replace CW := Lib.hid CW
  replace CG := Lib.hid CG
  replace CX := Lib.hid CX
  have hL := Lib.hid p3
  have hmn4 : m * n ≤ 400 := by omega
  have hmn1 : 0 < m * n := by omega
  have hGl' := Lib.hid hGl
  have hXl' := Lib.hid hXl
  clear hm hn hwl hGm hGss hGl hXl hR p1 p2 p3 p8 p9 p10 p11 hW hB hx hG hWc hs hF hO
  obtain ⟨wA, hwA, J, z, -⟩ := case_box w (.slice W.sa W.sl W.sc) (.slice W.ca wl W.cc) (.slice B.sa B.sl B.sc) (.slice B.ca m B.cc) (.slice x.sa x.sl x.sc) (.slice x.ca n x.cc) (.slice G.sa G.sl G.sc) (.slice G.ca m G.cc)
  obtain ⟨⟨j0, j1⟩, ⟨j2, j3⟩, ⟨j4, j5⟩, j6, j7⟩ := (J.out).see
  go_enter Try.func4, Try.ntmps4
  go_upto_region 1 with (fail)
  rw [hwA.out]
  go_wp2_with fail
  refine (SM.out wA).mono ?_
  rintro e w1 ⟨rfl, hb1⟩
  have b1 := Lib.hid (z.out.trans (hb1.mono z.out.size))
  have K1 := Lib.hid (J.out.kept hb1)
  clear j0 j1 j2 j3 j4 j5 j6 j7
  clear SM hb1
  obtain ⟨⟨j0, j1⟩, ⟨j2, j3⟩, ⟨j4, j5⟩, j6, j7⟩ := (K1.out).see
  go_wp2_with fail
  refine (GO.out w1 b1.out).mono ?_
  rintro e w2 ⟨⟨asa, asl, asc, ass, aca, acl, acc, acs⟩, ⟨bsa, bsl, bsc, bss, bca, bcl, bcc, bcs⟩, ⟨csa, csl, csc, css, cca, ccl, ccc, ccs⟩, rfl, hga, hgb, hgc, ⟨ea1, ea2⟩, ⟨eb1, eb2⟩, ⟨ec1, ec2⟩, hb2⟩
  dsimp only at ea1 ea2 eb1 eb2 ec1 ec2
  subst ea1 ea2 eb1 eb2 ec1 ec2
  obtain rfl : acl = m * n := by have := hga.2.1.1; dsimp only at this; rw [backW_length, hGl'.out, hXl'.out] at this; exact this.symm
  obtain rfl : bcl = m := by have := hgb.2.1.1; dsimp only at this; rw [hGl'.out] at this; exact this.symm
  obtain rfl : ccl = n := by have := hgc.2.1.1; dsimp only at this; rw [backX_length] at this; exact this.symm
  obtain ⟨wC, hwC, JY, zC, nC⟩ := grads_box w2 (.slice asa asl asc) (.slice aca (bcl * ccl) acc) (.slice bsa bsl bsc) (.slice bca bcl bcc) (.slice csa csl csc) (.slice cca ccl ccc)
  have k2 := Lib.hid (hb2.trans (zC.out.mono hb2.size))
  have b2 := Lib.hid (b1.out.trans (k2.out.mono b1.out.size))
  have K2 := Lib.hid (K1.out.kept k2.out)
  have TA0 := Lib.hid (hga.kept zC.out)
  have TB0 := Lib.hid (hgb.kept zC.out)
  have TC0 := Lib.hid (hgc.kept zC.out)
  clear j0 j1 j2 j3 j4 j5 j6 j7
  clear hb2 GO hga hgb hgc K1
  go_upto_region 4 with (fail)
  rw [hwC.out]
  obtain ⟨⟨j0, j1⟩, ⟨j2, j3⟩, ⟨j4, j5⟩, j6, j7⟩ := (K2.out).see
  go_wp2_with fail
  refine (FI.out wC b2.out).mono ?_
  rintro e w3 ⟨rfl, hb3⟩
  have b3 := Lib.hid (b2.out.trans (hb3.mono b2.out.size))
  have k3 := Lib.hid hb3
  clear j0 j1 j2 j3 j4 j5 j6 j7
  clear hb3 FI
  obtain ⟨⟨j0, j1⟩, ⟨j2, j3⟩, ⟨j4, j5⟩, j6, j7⟩ := ((K2.out.kept k3.out)).see
  go_wp2_with fail
  refine (RG.out w3 b3.out).mono ?_
  rintro e w4 ⟨rfl, hb4⟩
  have b4 := Lib.hid (b3.out.trans (hb4.mono b3.out.size))
  have k4 := Lib.hid (k3.out.trans (hb4.mono k3.out.size))
  clear j0 j1 j2 j3 j4 j5 j6 j7
  clear hb4 RG
  obtain ⟨⟨j0, j1⟩, ⟨j2, j3⟩, ⟨j4, j5⟩, j6, j7⟩ := ((K2.out.kept k4.out)).see
  go_wp2_with fail
  refine (SG.out w4 b4.out).mono ?_
  rintro e w5' ⟨rfl, nq, rfl⟩
  have b5 := Lib.hid (below_drewN' b4.out nq)
  have k5 := Lib.hid (below_drewN' k4.out nq)
  obtain ⟨w5, hw5⟩ : ∃ w5, w4.drewN nq = w5 := ⟨_, rfl⟩
  rw [hw5] at b5 k5 ⊢
  have K5 := Lib.hid (K2.out.kept k5.out)
  have JY5 := Lib.hid (JY.out.kept k5.out)
  have TA := Lib.hid (TA0.out.kept k5.out)
  have TB := Lib.hid (TB0.out.kept k5.out)
  have TC := Lib.hid (TC0.out.kept k5.out)
  clear j0 j1 j2 j3 j4 j5 j6 j7
  clear SG K2 JY TA0 TB0 TC0 k3 k4 b3 b4 hw5
  go_upto_region 6 with (fail)
  have SK := Lib.hid (fun w' (hb : Below w5.heap.size w5 w') => (show w'.cell? ⟨w2.heap.size, 0, none⟩ = some (.slice asa asl asc) ∧ w'.cell? ⟨w2.heap.size, 1, none⟩ = some (.slice aca (bcl * ccl) acc) ∧ w'.cell? ⟨w.heap.size, 0, none⟩ = some (.slice W.sa W.sl W.sc) ∧ w'.cell? ⟨w.heap.size, 6, none⟩ = some (.slice G.sa G.sl G.sc) ∧ w'.cell? ⟨w.heap.size, 7, none⟩ = some (.slice G.ca bcl G.cc) ∧ w'.cell? ⟨w.heap.size, 4, none⟩ = some (.slice x.sa x.sl x.sc) ∧ w'.cell? ⟨w.heap.size, 5, none⟩ = some (.slice x.ca ccl x.cc) ∧ w'.cell? ⟨w2.heap.size, 2, none⟩ = some (.slice bsa bsl bsc) ∧ w'.cell? ⟨w2.heap.size, 3, none⟩ = some (.slice bca bcl bcc) ∧ w'.cell? ⟨w.heap.size, 2, none⟩ = some (.slice B.sa B.sl B.sc) ∧ w'.cell? ⟨w2.heap.size, 4, none⟩ = some (.slice csa csl csc) ∧ w'.cell? ⟨w2.heap.size, 5, none⟩ = some (.slice cca ccl ccc) ∧ w'.cell? ⟨w.heap.size, 1, none⟩ = some (.slice W.ca wl W.cc) from ⟨(JY5.out.kept hb).see.1, (JY5.out.kept hb).see.2.1, (K5.out.kept hb).see.1.1, (K5.out.kept hb).see.2.2.2.1, (K5.out.kept hb).see.2.2.2.2, (K5.out.kept hb).see.2.2.1.1, (K5.out.kept hb).see.2.2.1.2, (JY5.out.kept hb).see.2.2.1, (JY5.out.kept hb).see.2.2.2.1, (K5.out.kept hb).see.2.1.1, (JY5.out.kept hb).see.2.2.2.2.1, (JY5.out.kept hb).see.2.2.2.2.2, (K5.out.kept hb).see.1.2⟩))
  have t1 := Lib.hid (show Below w5.heap.size w5 w5.drew from (Below.refl _ _).drew)
  refine wp_region_held_drew (S := fun w' => w'.cell? ⟨w2.heap.size, 0, none⟩ = some (.slice asa asl asc) ∧ w'.cell? ⟨w2.heap.size, 1, none⟩ = some (.slice aca (bcl * ccl) acc) ∧ w'.cell? ⟨w.heap.size, 0, none⟩ = some (.slice W.sa W.sl W.sc) ∧ w'.cell? ⟨w.heap.size, 6, none⟩ = some (.slice G.sa G.sl G.sc) ∧ w'.cell? ⟨w.heap.size, 7, none⟩ = some (.slice G.ca bcl G.cc) ∧ w'.cell? ⟨w.heap.size, 4, none⟩ = some (.slice x.sa x.sl x.sc) ∧ w'.cell? ⟨w.heap.size, 5, none⟩ = some (.slice x.ca ccl x.cc) ∧ w'.cell? ⟨w2.heap.size, 2, none⟩ = some (.slice bsa bsl bsc) ∧ w'.cell? ⟨w2.heap.size, 3, none⟩ = some (.slice bca bcl bcc) ∧ w'.cell? ⟨w.heap.size, 2, none⟩ = some (.slice B.sa B.sl B.sc) ∧ w'.cell? ⟨w2.heap.size, 4, none⟩ = some (.slice csa csl csc) ∧ w'.cell? ⟨w2.heap.size, 5, none⟩ = some (.slice cca ccl ccc) ∧ w'.cell? ⟨w.heap.size, 1, none⟩ = some (.slice W.ca wl W.cc)) (by kernel_rfl) (SK.out _ t1.out) (fun hHeld => ?_)
  refine held_take 0 (.int .i64 0) rfl (by kernel_rfl) (by kernel_rfl) (by kernel_rfl) (fun _ _ _ h => h) (by rfl) (by intro w' hS; go_simp) (by assumption) ?_
  try simp only [Act.put, List.setIfInBounds_toArray, List.set_cons_zero, List.set_cons_succ]
  refine held_take 1 (.bool true) rfl (by kernel_rfl) (by kernel_rfl) (by kernel_rfl) (fun _ _ _ h => h) (by rfl) (by intro w' hS; go_simp) (by assumption) ?_
  try simp only [Act.put, List.setIfInBounds_toArray, List.set_cons_zero, List.set_cons_succ]
  refine held_take 2 (.bool true) rfl (by kernel_rfl) (by kernel_rfl) (by kernel_rfl) (fun _ _ _ h => h) (by rfl) (by intro w' hS; go_simp) (by assumption) ?_
  try simp only [Act.put, List.setIfInBounds_toArray, List.set_cons_zero, List.set_cons_succ]
  refine held_take 3 (.pointer (some ⟨w2.heap.size, 0, none⟩)) rfl (by kernel_rfl) (by kernel_rfl) (by kernel_rfl) (fun _ _ _ h => h) (by rfl) (by intro w' hS; go_simp) (by assumption) ?_
  try simp only [Act.put, List.setIfInBounds_toArray, List.set_cons_zero, List.set_cons_succ]
  refine held_take 4 (.agg #[.slice asa asl asc, .slice aca (bcl * ccl) acc]) rfl (by kernel_rfl) (by kernel_rfl) (by kernel_rfl) (fun _ _ _ h => h) (by rfl) (by intro w' hS; go_simp) (by assumption) ?_
  try simp only [Act.put, List.setIfInBounds_toArray, List.set_cons_zero, List.set_cons_succ]
  refine held_take 5 (.pointer (some ⟨w.heap.size, 0, none⟩)) rfl (by kernel_rfl) (by kernel_rfl) (by kernel_rfl) (fun _ _ _ h => h) (by rfl) (by intro w' hS; go_simp) (by assumption) ?_
  try simp only [Act.put, List.setIfInBounds_toArray, List.set_cons_zero, List.set_cons_succ]
  refine held_take 6 (.pointer (some ⟨w.heap.size, 0, none⟩)) rfl (by kernel_rfl) (by kernel_rfl) (by kernel_rfl) (fun _ _ _ h => h) (by rfl) (by intro w' hS; go_simp) (by assumption) ?_
  try simp only [Act.put, List.setIfInBounds_toArray, List.set_cons_zero, List.set_cons_succ]
  refine held_take 7 (.slice W.sa W.sl W.sc) rfl (by kernel_rfl) (by kernel_rfl) (by kernel_rfl) (fun _ _ _ h => h) (by rfl) (by intro w' hS; go_simp) (by assumption) ?_
  try simp only [Act.put, List.setIfInBounds_toArray, List.set_cons_zero, List.set_cons_succ]
  refine held_take 8 (.pointer (some ⟨w.heap.size, 6, none⟩)) rfl (by kernel_rfl) (by kernel_rfl) (by kernel_rfl) (fun _ _ _ h => h) (by rfl) (by intro w' hS; go_simp) (by assumption) ?_
  try simp only [Act.put, List.setIfInBounds_toArray, List.set_cons_zero, List.set_cons_succ]
  refine held_take 9 (.agg #[.slice G.sa G.sl G.sc, .slice G.ca bcl G.cc]) rfl (by kernel_rfl) (by kernel_rfl) (by kernel_rfl) (fun _ _ _ h => h) (by rfl) (by intro w' hS; go_simp) (by assumption) ?_
  try simp only [Act.put, List.setIfInBounds_toArray, List.set_cons_zero, List.set_cons_succ]
  refine held_take 11 (.pointer (some ⟨w.heap.size, 4, none⟩)) rfl (by kernel_rfl) (by kernel_rfl) (by kernel_rfl) (fun _ _ _ h => h) (by rfl) (by intro w' hS; go_simp) (by assumption) ?_
  try simp only [Act.put, List.setIfInBounds_toArray, List.set_cons_zero, List.set_cons_succ]
  refine held_take 12 (.agg #[.slice x.sa x.sl x.sc, .slice x.ca ccl x.cc]) rfl (by kernel_rfl) (by kernel_rfl) (by kernel_rfl) (fun _ _ _ h => h) (by rfl) (by intro w' hS; go_simp) (by assumption) ?_
  try simp only [Act.put, List.setIfInBounds_toArray, List.set_cons_zero, List.set_cons_succ]
  refine held_call 10 (by kernel_rfl) rfl (by rfl) (fun K hK => ?_)
  go_simp
  refine (CG.out w5.drew (b5.out.trans (t1.out.mono b5.out.size))).mono ?_
  rintro e wq1 ⟨A1, p1, rfl, oc, hb⟩
  have bq1 := Lib.hid (t1.out.trans ((hb).mono t1.out.size))
  obtain ⟨g1, p1', hv1⟩ := Joins.ownsRow_form oc (by omega)
  simp only [Value.slice.injEq] at hv1
  obtain ⟨rfl, -, rfl⟩ := hv1
  have i1 := Lib.hid (row_ints oc (show bcl ≤ 9223372036854775807 by omega) (hfG.out))
  have kk1 := Lib.hid hb
  clear oc
  go_wp2_with fail
  refine hK.out _ _ (SK.out _ bq1.out) (fun hHeld => ?_)
  try simp only [Act.put, List.setIfInBounds_toArray, List.set_cons_zero, List.set_cons_succ]
  refine held_call 13 (by kernel_rfl) rfl (by rfl) (fun K hK => ?_)
  go_simp
  refine (CX.out wq1 (b5.out.trans (bq1.out.mono b5.out.size))).mono ?_
  rintro e wq2 ⟨A2, p2, rfl, oc, hb⟩
  have bq2 := Lib.hid (bq1.out.trans ((hb).mono bq1.out.size))
  obtain ⟨g2, p2', hv2⟩ := Joins.ownsRow_form oc (by omega)
  simp only [Value.slice.injEq] at hv2
  obtain ⟨rfl, -, rfl⟩ := hv2
  have i2 := Lib.hid (row_ints oc (show ccl ≤ 9223372036854775807 by omega) (hfX.out))
  have kk2 := Lib.hid hb
  clear oc
  go_wp2_with fail
  refine hK.out _ _ (SK.out _ bq2.out) (fun hHeld => ?_)
  try simp only [Act.put, List.setIfInBounds_toArray, List.set_cons_zero, List.set_cons_succ]
  refine held_call 14 (by kernel_rfl) rfl (by rfl) (fun K hK => ?_)
  go_simp
  refine (refbackw_any bcl ccl g1 0 p1 g2 0 p2 G.cs x.cs wq2 (i1.out.kept kk2.out) i2.out (by omega) (by omega) (by omega)).mono ?_
  rintro e wq3 ⟨A3, p3, rfl, oc, hb⟩
  have bq3 := Lib.hid (bq2.out.trans ((hb).mono bq2.out.size))
  obtain ⟨g3, p3', hv3⟩ := Joins.ownsRow_form oc (by omega)
  simp only [Value.slice.injEq] at hv3
  obtain ⟨rfl, -, rfl⟩ := hv3
  have i3 := Lib.hid (row_ints oc (show bcl * ccl ≤ 9223372036854775807 by omega) (backW_fits _ _))
  have kk3 := Lib.hid hb
  clear oc
  go_wp2_with fail
  refine hK.out _ _ (SK.out _ bq3.out) (fun hHeld => ?_)
  try simp only [Act.put, List.setIfInBounds_toArray, List.set_cons_zero, List.set_cons_succ]
  refine held_call 15 (by kernel_rfl) rfl (by rfl) (fun K hK => ?_)
  go_simp
  refine (same6_any ⟨asa, asl, asc, W.ss, aca, bcl * ccl, acc, backW G.cs x.cs⟩ W.sa W.sl W.sc (some ⟨g3, 0, none⟩) p3 wq3 (TA.out.kept bq3.out) ((HW.out wq3 (b5.out.trans (bq3.out.mono b5.out.size))).1) i3.out).mono ?_
  rintro e wq4 ⟨rfl, hb⟩
  have bq4 := Lib.hid (bq3.out.trans ((hb).mono bq3.out.size))
  go_wp2_with fail
  refine hK.out _ _ (SK.out _ bq4.out) (fun hHeld => ?_)
  try simp only [Act.put, List.setIfInBounds_toArray, List.set_cons_zero, List.set_cons_succ]
  refine held_take 16 (.bool true) rfl (by kernel_rfl) (by kernel_rfl) (by kernel_rfl) (fun _ _ _ h => h) (by rfl) (by intro w' hS; go_simp) (by assumption) ?_
  try simp only [Act.put, List.setIfInBounds_toArray, List.set_cons_zero, List.set_cons_succ]
  refine held_take 17 (.bool true) rfl (by kernel_rfl) (by kernel_rfl) (by kernel_rfl) (fun _ _ _ h => h) (by rfl) (by intro w' hS; go_simp) (by assumption) ?_
  try simp only [Act.put, List.setIfInBounds_toArray, List.set_cons_zero, List.set_cons_succ]
  refine held_take 18 (.pointer (some ⟨w2.heap.size, 2, none⟩)) rfl (by kernel_rfl) (by kernel_rfl) (by kernel_rfl) (fun _ _ _ h => h) (by rfl) (by intro w' hS; go_simp) (by assumption) ?_
  try simp only [Act.put, List.setIfInBounds_toArray, List.set_cons_zero, List.set_cons_succ]
  refine held_take 19 (.agg #[.slice bsa bsl bsc, .slice bca bcl bcc]) rfl (by kernel_rfl) (by kernel_rfl) (by kernel_rfl) (fun _ _ _ h => h) (by rfl) (by intro w' hS; go_simp) (by assumption) ?_
  try simp only [Act.put, List.setIfInBounds_toArray, List.set_cons_zero, List.set_cons_succ]
  refine held_take 20 (.pointer (some ⟨w.heap.size, 2, none⟩)) rfl (by kernel_rfl) (by kernel_rfl) (by kernel_rfl) (fun _ _ _ h => h) (by rfl) (by intro w' hS; go_simp) (by assumption) ?_
  try simp only [Act.put, List.setIfInBounds_toArray, List.set_cons_zero, List.set_cons_succ]
  refine held_take 21 (.pointer (some ⟨w.heap.size, 2, none⟩)) rfl (by kernel_rfl) (by kernel_rfl) (by kernel_rfl) (fun _ _ _ h => h) (by rfl) (by intro w' hS; go_simp) (by assumption) ?_
  try simp only [Act.put, List.setIfInBounds_toArray, List.set_cons_zero, List.set_cons_succ]
  refine held_take 22 (.slice B.sa B.sl B.sc) rfl (by kernel_rfl) (by kernel_rfl) (by kernel_rfl) (fun _ _ _ h => h) (by rfl) (by intro w' hS; go_simp) (by assumption) ?_
  try simp only [Act.put, List.setIfInBounds_toArray, List.set_cons_zero, List.set_cons_succ]
  refine held_take 23 (.pointer (some ⟨w.heap.size, 6, none⟩)) rfl (by kernel_rfl) (by kernel_rfl) (by kernel_rfl) (fun _ _ _ h => h) (by rfl) (by intro w' hS; go_simp) (by assumption) ?_
  try simp only [Act.put, List.setIfInBounds_toArray, List.set_cons_zero, List.set_cons_succ]
  refine held_take 24 (.agg #[.slice G.sa G.sl G.sc, .slice G.ca bcl G.cc]) rfl (by kernel_rfl) (by kernel_rfl) (by kernel_rfl) (fun _ _ _ h => h) (by rfl) (by intro w' hS; go_simp) (by assumption) ?_
  try simp only [Act.put, List.setIfInBounds_toArray, List.set_cons_zero, List.set_cons_succ]
  refine held_call 25 (by kernel_rfl) rfl (by rfl) (fun K hK => ?_)
  go_simp
  refine (CG.out wq4 (b5.out.trans (bq4.out.mono b5.out.size))).mono ?_
  rintro e wq5 ⟨A4, p4, rfl, oc, hb⟩
  have bq5 := Lib.hid (bq4.out.trans ((hb).mono bq4.out.size))
  obtain ⟨g4, p4', hv4⟩ := Joins.ownsRow_form oc (by omega)
  simp only [Value.slice.injEq] at hv4
  obtain ⟨rfl, -, rfl⟩ := hv4
  have i4 := Lib.hid (row_ints oc (show bcl ≤ 9223372036854775807 by omega) (hfG.out))
  have kk4 := Lib.hid hb
  clear oc
  go_wp2_with fail
  refine hK.out _ _ (SK.out _ bq5.out) (fun hHeld => ?_)
  try simp only [Act.put, List.setIfInBounds_toArray, List.set_cons_zero, List.set_cons_succ]
  refine held_call 26 (by kernel_rfl) rfl (by rfl) (fun K hK => ?_)
  go_simp
  refine (same6_any ⟨bsa, bsl, bsc, B.ss, bca, bcl, bcc, G.cs⟩ B.sa B.sl B.sc (some ⟨g4, 0, none⟩) p4 wq5 (TB.out.kept bq5.out) ((HB.out wq5 (b5.out.trans (bq5.out.mono b5.out.size))).1) i4.out).mono ?_
  rintro e wq6 ⟨rfl, hb⟩
  have bq6 := Lib.hid (bq5.out.trans ((hb).mono bq5.out.size))
  go_wp2_with fail
  refine hK.out _ _ (SK.out _ bq6.out) (fun hHeld => ?_)
  try simp only [Act.put, List.setIfInBounds_toArray, List.set_cons_zero, List.set_cons_succ]
  refine held_take 27 (.bool true) rfl (by kernel_rfl) (by kernel_rfl) (by kernel_rfl) (fun _ _ _ h => h) (by rfl) (by intro w' hS; go_simp) (by assumption) ?_
  try simp only [Act.put, List.setIfInBounds_toArray, List.set_cons_zero, List.set_cons_succ]
  refine held_take 28 (.bool true) rfl (by kernel_rfl) (by kernel_rfl) (by kernel_rfl) (fun _ _ _ h => h) (by rfl) (by intro w' hS; go_simp) (by assumption) ?_
  try simp only [Act.put, List.setIfInBounds_toArray, List.set_cons_zero, List.set_cons_succ]
  refine held_take 29 (.pointer (some ⟨w2.heap.size, 4, none⟩)) rfl (by kernel_rfl) (by kernel_rfl) (by kernel_rfl) (fun _ _ _ h => h) (by rfl) (by intro w' hS; go_simp) (by assumption) ?_
  try simp only [Act.put, List.setIfInBounds_toArray, List.set_cons_zero, List.set_cons_succ]
  refine held_take 30 (.agg #[.slice csa csl csc, .slice cca ccl ccc]) rfl (by kernel_rfl) (by kernel_rfl) (by kernel_rfl) (fun _ _ _ h => h) (by rfl) (by intro w' hS; go_simp) (by assumption) ?_
  try simp only [Act.put, List.setIfInBounds_toArray, List.set_cons_zero, List.set_cons_succ]
  refine held_take 31 (.pointer (some ⟨w.heap.size, 4, none⟩)) rfl (by kernel_rfl) (by kernel_rfl) (by kernel_rfl) (fun _ _ _ h => h) (by rfl) (by intro w' hS; go_simp) (by assumption) ?_
  try simp only [Act.put, List.setIfInBounds_toArray, List.set_cons_zero, List.set_cons_succ]
  refine held_take 32 (.pointer (some ⟨w.heap.size, 4, none⟩)) rfl (by kernel_rfl) (by kernel_rfl) (by kernel_rfl) (fun _ _ _ h => h) (by rfl) (by intro w' hS; go_simp) (by assumption) ?_
  try simp only [Act.put, List.setIfInBounds_toArray, List.set_cons_zero, List.set_cons_succ]
  refine held_take 33 (.slice x.sa x.sl x.sc) rfl (by kernel_rfl) (by kernel_rfl) (by kernel_rfl) (fun _ _ _ h => h) (by rfl) (by intro w' hS; go_simp) (by assumption) ?_
  try simp only [Act.put, List.setIfInBounds_toArray, List.set_cons_zero, List.set_cons_succ]
  refine held_take 34 (.pointer (some ⟨w.heap.size, 4, none⟩)) rfl (by kernel_rfl) (by kernel_rfl) (by kernel_rfl) (fun _ _ _ h => h) (by rfl) (by intro w' hS; go_simp) (by assumption) ?_
  try simp only [Act.put, List.setIfInBounds_toArray, List.set_cons_zero, List.set_cons_succ]
  refine held_take 35 (.pointer (some ⟨w.heap.size, 5, none⟩)) rfl (by kernel_rfl) (by kernel_rfl) (by kernel_rfl) (fun _ _ _ h => h) (by rfl) (by intro w' hS; go_simp) (by assumption) ?_
  try simp only [Act.put, List.setIfInBounds_toArray, List.set_cons_zero, List.set_cons_succ]
  refine held_take 36 (.slice x.ca ccl x.cc) rfl (by kernel_rfl) (by kernel_rfl) (by kernel_rfl) (fun _ _ _ h => h) (by rfl) (by intro w' hS; go_simp) (by assumption) ?_
  try simp only [Act.put, List.setIfInBounds_toArray, List.set_cons_zero, List.set_cons_succ]
  refine held_take 37 (.int .i64 ccl) rfl (by kernel_rfl) (by kernel_rfl) (by kernel_rfl) (fun _ _ _ h => h) (by rfl) (by intro w' hS; go_simp) (by assumption) ?_
  try simp only [Act.put, List.setIfInBounds_toArray, List.set_cons_zero, List.set_cons_succ]
  refine held_take 38 (.pointer (some ⟨w.heap.size, 0, none⟩)) rfl (by kernel_rfl) (by kernel_rfl) (by kernel_rfl) (fun _ _ _ h => h) (by rfl) (by intro w' hS; go_simp) (by assumption) ?_
  try simp only [Act.put, List.setIfInBounds_toArray, List.set_cons_zero, List.set_cons_succ]
  refine held_take 39 (.agg #[.slice W.sa W.sl W.sc, .slice W.ca wl W.cc]) rfl (by kernel_rfl) (by kernel_rfl) (by kernel_rfl) (fun _ _ _ h => h) (by rfl) (by intro w' hS; go_simp) (by assumption) ?_
  try simp only [Act.put, List.setIfInBounds_toArray, List.set_cons_zero, List.set_cons_succ]
  refine held_take 41 (.pointer (some ⟨w.heap.size, 6, none⟩)) rfl (by kernel_rfl) (by kernel_rfl) (by kernel_rfl) (fun _ _ _ h => h) (by rfl) (by intro w' hS; go_simp) (by assumption) ?_
  try simp only [Act.put, List.setIfInBounds_toArray, List.set_cons_zero, List.set_cons_succ]
  refine held_take 42 (.agg #[.slice G.sa G.sl G.sc, .slice G.ca bcl G.cc]) rfl (by kernel_rfl) (by kernel_rfl) (by kernel_rfl) (fun _ _ _ h => h) (by rfl) (by intro w' hS; go_simp) (by assumption) ?_
  try simp only [Act.put, List.setIfInBounds_toArray, List.set_cons_zero, List.set_cons_succ]
  refine held_call 40 (by kernel_rfl) rfl (by rfl) (fun K hK => ?_)
  go_simp
  refine (CW.out wq6 (b5.out.trans (bq6.out.mono b5.out.size))).mono ?_
  rintro e wq7 ⟨A5, p5, rfl, oc, hb⟩
  have bq7 := Lib.hid (bq6.out.trans ((hb).mono bq6.out.size))
  obtain ⟨g5, p5', hv5⟩ := Joins.ownsRow_form oc (by omega)
  simp only [Value.slice.injEq] at hv5
  obtain ⟨rfl, -, rfl⟩ := hv5
  have i5 := Lib.hid (row_ints oc (show wl ≤ 9223372036854775807 by omega) (hfW.out))
  have kk5 := Lib.hid hb
  clear oc
  go_wp2_with fail
  refine hK.out _ _ (SK.out _ bq7.out) (fun hHeld => ?_)
  try simp only [Act.put, List.setIfInBounds_toArray, List.set_cons_zero, List.set_cons_succ]
  refine held_call 43 (by kernel_rfl) rfl (by rfl) (fun K hK => ?_)
  go_simp
  refine (CG.out wq7 (b5.out.trans (bq7.out.mono b5.out.size))).mono ?_
  rintro e wq8 ⟨A6, p6, rfl, oc, hb⟩
  have bq8 := Lib.hid (bq7.out.trans ((hb).mono bq7.out.size))
  obtain ⟨g6, p6', hv6⟩ := Joins.ownsRow_form oc (by omega)
  simp only [Value.slice.injEq] at hv6
  obtain ⟨rfl, -, rfl⟩ := hv6
  have i6 := Lib.hid (row_ints oc (show bcl ≤ 9223372036854775807 by omega) (hfG.out))
  have kk6 := Lib.hid hb
  clear oc
  go_wp2_with fail
  refine hK.out _ _ (SK.out _ bq8.out) (fun hHeld => ?_)
  try simp only [Act.put, List.setIfInBounds_toArray, List.set_cons_zero, List.set_cons_succ]
  refine held_call 44 (by kernel_rfl) rfl (by rfl) (fun K hK => ?_)
  go_simp
  refine (refbackx_any bcl ccl wl g5 0 p5 g6 0 p6 W.cs G.cs wq8 (i5.out.kept kk6.out) hL.out i6.out (by omega) (by omega)).mono ?_
  rintro e wq9 ⟨A7, p7, rfl, oc, hb⟩
  have bq9 := Lib.hid (bq8.out.trans ((hb).mono bq8.out.size))
  obtain ⟨g7, p7', hv7⟩ := Joins.ownsRow_form oc (by omega)
  simp only [Value.slice.injEq] at hv7
  obtain ⟨rfl, -, rfl⟩ := hv7
  have i7 := Lib.hid (row_ints oc (show ccl ≤ 9223372036854775807 by omega) (backX_fits _ _ _ _))
  have kk7 := Lib.hid hb
  clear oc
  go_wp2_with fail
  refine hK.out _ _ (SK.out _ bq9.out) (fun hHeld => ?_)
  try simp only [Act.put, List.setIfInBounds_toArray, List.set_cons_zero, List.set_cons_succ]
  refine held_call 45 (by kernel_rfl) rfl (by rfl) (fun K hK => ?_)
  go_simp
  refine (same6_any ⟨csa, csl, csc, x.ss, cca, ccl, ccc, backX bcl ccl W.cs G.cs⟩ x.sa x.sl x.sc (some ⟨g7, 0, none⟩) p7 wq9 (TC.out.kept bq9.out) ((HX.out wq9 (b5.out.trans (bq9.out.mono b5.out.size))).1) i7.out).mono ?_
  rintro e wq10 ⟨rfl, hb⟩
  have bq10 := Lib.hid (bq9.out.trans ((hb).mono bq9.out.size))
  go_wp2_with fail
  refine hK.out _ _ (SK.out _ bq10.out) (fun hHeld => ?_)
  try simp only [Act.put, List.setIfInBounds_toArray, List.set_cons_zero, List.set_cons_succ]
  refine held_take 46 (.bool true) rfl (by kernel_rfl) (by kernel_rfl) (by kernel_rfl) (fun _ _ _ h => h) (by rfl) (by intro w' hS; go_simp) (by assumption) ?_
  try simp only [Act.put, List.setIfInBounds_toArray, List.set_cons_zero, List.set_cons_succ]
  refine held_take 47 (.bool true) rfl (by kernel_rfl) (by kernel_rfl) (by kernel_rfl) (fun _ _ _ h => h) (by rfl) (by intro w' hS; go_simp) (by assumption) ?_
  try simp only [Act.put, List.setIfInBounds_toArray, List.set_cons_zero, List.set_cons_succ]
  refine held_call 48 (by kernel_rfl) rfl (by rfl) (fun K hK => ?_)
  go_simp
  refine (awake06_any wq10).mono ?_
  rintro e wq11 ⟨rfl, hb⟩
  have bq11 := Lib.hid (bq10.out.trans ((hb).mono bq10.out.size))
  go_wp2_with fail
  refine hK.out _ _ (SK.out _ bq11.out) (fun hHeld => ?_)
  try simp only [Act.put, List.setIfInBounds_toArray, List.set_cons_zero, List.set_cons_succ]
  refine held_take 49 (.bool true) rfl (by kernel_rfl) (by kernel_rfl) (by kernel_rfl) (fun _ _ _ h => h) (by rfl) (by intro w' hS; go_simp) (by assumption) ?_
  try simp only [Act.put, List.setIfInBounds_toArray, List.set_cons_zero, List.set_cons_succ]
  refine held_take 50 (.bool true) rfl (by kernel_rfl) (by kernel_rfl) (by kernel_rfl) (fun _ _ _ h => h) (by rfl) (by intro w' hS; go_simp) (by assumption) ?_
  try simp only [Act.put, List.setIfInBounds_toArray, List.set_cons_zero, List.set_cons_succ]
  refine wpAnyH_done (by kernel_rfl) ?_ _
  go_wp2_with fail
  go_ret
  exact ⟨rfl, b5.out.trans (bq11.out.mono b5.out.size)⟩

theorem denseBacks_walk (W B x G : TV) (w : World) (hW : W.At w ∧ W.Cap) (hB : B.At w ∧ B.Cap) (hx : x.At w ∧ x.Cap) (hG : G.At w ∧ G.Cap) :
    Calls Try.prog 4 #[.agg #[.slice W.sa W.sl W.sc, .slice W.ca W.cl W.cc, .slice B.sa B.sl B.sc, .slice B.ca B.cl B.cc, .slice x.sa x.sl x.sc, .slice x.ca x.cl x.cc, .slice G.sa G.sl G.sc, .slice G.ca G.cl G.cc]] w fun e w' => e = .returned (.bool true) ∧ Below w.heap.size w w' := by
  cases hs : smallC W B x G
  · exact denseBacks_small W B x G w hs
  cases hF : fitT W.ss W.cl B.ss B.cl x.ss x.cl
  · exact denseBacks_bad1 W B x G w hW.1 hB.1 hx.1 hG.1 hs hF
  cases hO : outT (W.ss.getD 0 0) G.ss G.cl
  · cases hR : rightT G.ss G.cl
    · exact denseBacks_bad2 W B x G w hW.1 hB.1 hx.1 hG.1 hs hF hO hR
    · refine denseBacks_bad3 W B x G w hW.1 hB.1 hx.1 hG.1 hs hF hO hR ?_
      obtain ⟨p1, p2, -⟩ := fitT_facts hF
      unfold outT at hO
      rw [hR, p1] at hO
      rw [p2]
      simpa using hO
  · exact denseBacks_ok W B x G w hW.1 hB.1 hx.1 hG.1 hW.2 hs hF hO
end Go.Proofs.Ytlpecdfiagklpaa
