import Derived.Test.YtapelgjnnccfoaaJ08
import Derived.Test.YtapelgjnnccfoaaJ12
import Derived.Test.YtapelgjnnccfoaaJ14
/-
  The walk of the statement ConvGoes.
-/
namespace Go.Proofs.Ytapelgjnnccfoaa
open Go.RowKit
set_option linter.unusedVariables false
set_option linter.unusedSimpArgs false

theorem tens_parts {W x : TV} {s : Int} (h : tensE W x s = 0) : rightT W.ss W.cl = true ∧ rightT x.ss x.cl = true ∧ toldE W.ss x.ss s = 0 := by
  by_cases c : rightT W.ss W.cl = true ∧ rightT x.ss x.cl = true
  · exact ⟨c.1, c.2, by rw [← tensE_yes c.1 c.2]; exact h⟩
  · rw [tensE_no c] at h; omega

/-- The reference's answer, by the tensors. -/
theorem refgo_any (W x : TV) (s : Int) (hE : tensE W x s = 0) (N : Nat) (hN : prodI (outS W.ss x.ss s) = N) (wa : Option Addr) (wc : Nat) (xa : Option Addr) (xc : Nat) (w : World) (hw : IntsAt w wa W.cl W.cs) (hx : IntsAt w xa x.cl x.cs) :
    Calls Try.prog 17 #[planV (planOf W.ss x.ss s), .int .i64 0, .slice wa W.cl wc, .slice xa x.cl xc, .slice none 0 0] w fun e w' => ∃ A c, e = .returned (.slice A N c) ∧ IntsAt w' A N (runP N (goV W.cs x.cs) (touchL W.ss x.ss s)) ∧ Below w.heap.size w w' := by
  obtain ⟨r1, r2, r3⟩ := tens_parts hE
  have F := plan_facts r3
  have a1 := (rightT_parts r1).2
  have a2 := (rightT_parts r2).2
  have b1 := (rightS_parts (rightT_parts r1).1).2.2.2
  have b2 := (rightS_parts (rightT_parts r2).1).2.2.2
  have b3 := (rightS_parts (told_parts r3).2.2).2.2.2
  have k := F.kernel
  have i := F.inn
  have ou := F.out
  have et : touchL W.ss x.ss s = (planOf W.ss x.ss s).all := by unfold touchL; rw [if_pos r3]
  rw [et]
  exact refrun0 _ _ _ _ F wa W.cl wc W.cs xa x.cl xc x.cs none 0 0 [] w hw hx N (by omega) (by omega) (by omega) (by omega) (by omega) (by omega)

set_option maxRecDepth 100000 in
set_option maxHeartbeats 8000000 in
theorem convGoes_small (W x G : TV) (s : Int) (w : World) (hs : smallC W x G = false) :
    Calls Try.prog 4 #[.agg #[.slice W.sa W.sl W.sc, .slice W.ca W.cl W.cc, .slice x.sa x.sl x.sc, .slice x.ca x.cl x.cc, .slice G.sa G.sl G.sc, .slice G.ca G.cl G.cc, .int .i64 s]] w fun e w' => e = .returned (.bool true) ∧ Below w.heap.size w w' := by
  obtain ⟨wA, hwA, J, z, -⟩ := case7_box w (.slice W.sa W.sl W.sc) (.slice W.ca W.cl W.cc) (.slice x.sa x.sl x.sc) (.slice x.ca x.cl x.cc) (.slice G.sa G.sl G.sc) (.slice G.ca G.cl G.cc) (.int .i64 s)
  have SM := small7_any W x G s wA
  rw [hs] at SM
  have SM' := Lib.hid SM
  clear SM hs
  obtain ⟨⟨j0, j1⟩, ⟨j2, j3⟩, ⟨j4, j5⟩, j6⟩ := (J.out).see
  go_enter Try.func4, Try.ntmps4
  go_upto_region 1 with (fail)
  rw [hwA.out]
  go_wp2_with fail
  refine SM'.out.mono ?_
  rintro e w1 ⟨rfl, hb1⟩
  have b1z := Lib.hid (z.out.trans (hb1.mono z.out.size))
  clear j0 j1 j2 j3 j4 j5 j6
  clear SM' hb1
  go_wp2_with fail
  refine (awake07_any _).mono ?_
  rintro e w9 ⟨rfl, hb9⟩
  go_wp2_with fail
  go_ret
  exact ⟨rfl, b1z.out.trans (hb9.mono b1z.out.size)⟩

set_option maxRecDepth 100000 in
set_option maxHeartbeats 8000000 in
theorem convGoes_bad (W x G : TV) (s : Int) (w : World) (hW : W.At w ∧ W.CapS) (hx : x.At w ∧ x.CapS) (hs1 : -9223372036854775808 ≤ s) (hs2 : s ≤ 9223372036854775807) (hs : smallC W x G = true) (hE : tensE W x s ≠ 0) :
    Calls Try.prog 4 #[.agg #[.slice W.sa W.sl W.sc, .slice W.ca W.cl W.cc, .slice x.sa x.sl x.sc, .slice x.ca x.cl x.cc, .slice G.sa G.sl G.sc, .slice G.ca G.cl G.cc, .int .i64 s]] w fun e w' => e = .returned (.bool true) ∧ Below w.heap.size w w' := by
  obtain ⟨wA, hwA, J, z, -⟩ := case7_box w (.slice W.sa W.sl W.sc) (.slice W.ca W.cl W.cc) (.slice x.sa x.sl x.sc) (.slice x.ca x.cl x.cc) (.slice G.sa G.sl G.sc) (.slice G.ca G.cl G.cc) (.int .i64 s)
  have SM := small7_any W x G s wA
  rw [hs] at SM
  have SM' := Lib.hid SM
  have GO := fun w1 (hb : Below wA.heap.size wA w1) => convgo_no W x s w1 ((hW.1.kept z.out).kept hb) ((hx.1.kept z.out).kept hb) hW.2 hx.2 hs1 hs2 hE
  have FI := fun w1 (hb : Below wA.heap.size wA w1) => refused_any W x G s w1 ((hW.1.kept z.out).kept hb) ((hx.1.kept z.out).kept hb)
  obtain ⟨v, hv⟩ : ∃ v, tensE W x s = v := ⟨_, rfl⟩
  rw [hv] at FI GO hE
  replace GO := Lib.hid GO
  have FI' := Lib.hid FI
  clear SM hs FI hW hx hv
  obtain ⟨⟨j0, j1⟩, ⟨j2, j3⟩, ⟨j4, j5⟩, j6⟩ := (J.out).see
  go_enter Try.func4, Try.ntmps4
  go_upto_region 1 with (fail)
  rw [hwA.out]
  go_wp2_with fail
  refine SM'.out.mono ?_
  rintro e w1 ⟨rfl, hb1⟩
  have b1 := Lib.hid hb1
  clear j0 j1 j2 j3 j4 j5 j6
  clear SM' hb1
  obtain ⟨⟨j0, j1⟩, ⟨j2, j3⟩, ⟨j4, j5⟩, j6⟩ := (J.out.kept b1.out).see
  go_wp2_with fail
  refine (GO.out w1 b1.out).mono ?_
  rintro e w2 ⟨rfl, hb2⟩
  obtain ⟨wC, hwC, JY, zC, nC⟩ := grid_box w2 (.slice none 0 0) (.slice none 0 0)
  have b2 := Lib.hid (b1.out.trans ((hb2.trans (zC.out.mono hb2.size)).mono b1.out.size))
  clear j0 j1 j2 j3 j4 j5 j6
  clear hb2 GO
  go_upto_region 4 with (fail)
  rw [hwC.out]
  obtain ⟨⟨j0, j1⟩, ⟨j2, j3⟩, ⟨j4, j5⟩, j6⟩ := (J.out.kept b2.out).see
  go_wp2_with fail
  refine (FI'.out wC b2.out).mono ?_
  rintro e w3 ⟨rfl, hb3⟩
  obtain ⟨l0, l1, -, -⟩ := (JY.out.kept hb3).see
  have b3z := Lib.hid (z.out.trans ((b2.out.trans (hb3.mono b2.out.size)).mono z.out.size))
  clear j0 j1 j2 j3 j4 j5 j6
  clear hb3 FI'
  go_wp2_with fail
  refine (awake07_any _).mono ?_
  rintro e w9 ⟨rfl, hb9⟩
  go_wp2_with fail
  go_ret
  exact ⟨rfl, b3z.out.trans (hb9.mono b3z.out.size)⟩

set_option maxRecDepth 100000 in
set_option maxHeartbeats 16000000 in
theorem convGoes_ok (W x G : TV) (s : Int) (w : World) (hW : W.At w ∧ W.CapS) (hx : x.At w ∧ x.CapS) (hs1 : -9223372036854775808 ≤ s) (hs2 : s ≤ 9223372036854775807) (hs : smallC W x G = true) (hE : tensE W x s = 0) :
    Calls Try.prog 4 #[.agg #[.slice W.sa W.sl W.sc, .slice W.ca W.cl W.cc, .slice x.sa x.sl x.sc, .slice x.ca x.cl x.cc, .slice G.sa G.sl G.sc, .slice G.ca G.cl G.cc, .int .i64 s]] w fun e w' => e = .returned (.bool true) ∧ Below w.heap.size w w' := by
  obtain ⟨⟨s1, s2⟩, s3, s4, s5, s6⟩ := smallC_parts hs
  obtain ⟨r1, r2, r3⟩ := tens_parts hE
  obtain ⟨N, hN⟩ := nat_of (z := prodI (outS W.ss x.ss s)) (by have := (plan_facts r3).out; omega)
  have hN6 : N ≤ 65536 := by have := (rightS_parts (told_parts r3).2.2).2.2.2; omega
  have hk6 : x.ss.length ≤ 9 := by have := hx.1.1.1; omega
  have hfo := outS_fit r3
  have hl := outS_len r3
  have SM := Lib.hid (fun w1 => hs ▸ small7_any W x G s w1)
  have GO := fun w1 (hb : Below w.heap.size w w1) => convgo_ok W x s w1 (hW.1.kept hb) (hx.1.kept hb) hW.2 hx.2 hs1 hs2 hE N hN
  have FI := Lib.hid (fun w1 (hb : Below w.heap.size w w1) => hE ▸ refused_any W x G s w1 (hW.1.kept hb) (hx.1.kept hb))
  have TO := fun w1 (hb : Below w.heap.size w w1) => (told_any W x s w1 (hW.1.kept hb) (hx.1.kept hb)).mono fun e w' h => h.1 r3
  have OF := fun w1 (hb : Below w.heap.size w w1) => refof_any W x s w1 (hW.1.kept hb) (hx.1.kept hb) r3
  have RU := fun wa wc xa xc w1 hw hx => refgo_any W x s hE N hN wa wc xa xc w1 hw hx
  have CW := Lib.hid (fun w1 (hb : Below w.heap.size w w1) => cells_any W.sa W.sl W.sc W.ca W.cl W.cc W.cs w1 (hW.1.2.1.kept hb) (by omega))
  have CX := Lib.hid (fun w1 (hb : Below w.heap.size w w1) => cells_any x.sa x.sl x.sc x.ca x.cl x.cc x.cs w1 (hx.1.2.1.kept hb) (by omega))
  have hf1 := Lib.hid hW.1.2.1.2.2.1
  have hf2 := Lib.hid hx.1.2.1.2.2.1
  obtain ⟨os, hos⟩ : ∃ os, outS W.ss x.ss s = os := ⟨_, rfl⟩
  obtain ⟨rs, hrs⟩ : ∃ rs, runP N (goV W.cs x.cs) (touchL W.ss x.ss s) = rs := ⟨_, rfl⟩
  obtain ⟨pv, hpv⟩ : ∃ pv, planV (planOf W.ss x.ss s) = pv := ⟨_, rfl⟩
  obtain ⟨k, hk⟩ : ∃ k, x.ss.length = k := ⟨_, rfl⟩
  have hfr := Lib.hid (show Fits rs by rw [← hrs]; exact runP_fits _ _ _)
  rw [hos, hk, hrs] at GO
  rw [hos, hk] at TO
  rw [hpv] at OF
  rw [hpv, hrs] at RU
  rw [hos] at hfo
  rw [hk] at hk6
  replace hfo := Lib.hid hfo
  replace GO := Lib.hid GO
  replace TO := Lib.hid TO
  replace OF := Lib.hid OF
  replace RU := Lib.hid RU
  clear hos hrs hpv hk hN hl r1 r2 r3 hW hx hs hE s1 s2 s3
  obtain ⟨wA, hwA, J, z, -⟩ := case7_box w (.slice W.sa W.sl W.sc) (.slice W.ca W.cl W.cc) (.slice x.sa x.sl x.sc) (.slice x.ca x.cl x.cc) (.slice G.sa G.sl G.sc) (.slice G.ca G.cl G.cc) (.int .i64 s)
  obtain ⟨⟨j0, j1⟩, ⟨j2, j3⟩, ⟨j4, j5⟩, j6⟩ := (J.out).see
  go_enter Try.func4, Try.ntmps4
  go_upto_region 1 with (fail)
  rw [hwA.out]
  go_wp2_with fail
  refine (SM.out wA).mono ?_
  rintro e w1 ⟨rfl, hb1⟩
  have b1 := Lib.hid (z.out.trans (hb1.mono z.out.size))
  have K1 := Lib.hid (J.out.kept hb1)
  clear j0 j1 j2 j3 j4 j5 j6
  clear SM hb1
  obtain ⟨⟨j0, j1⟩, ⟨j2, j3⟩, ⟨j4, j5⟩, j6⟩ := (K1.out).see
  go_wp2_with fail
  refine (GO.out w1 b1.out).mono ?_
  rintro e w2 ⟨v', rfl, Y, yc, Y', yc', rfl, o1, o2, -, hb2⟩
  obtain ⟨wC, hwC, JY, zC, nC⟩ := grid_box w2 (.slice Y k yc) (.slice Y' N yc')
  have k2 := Lib.hid (hb2.trans (zC.out.mono hb2.size))
  have b2 := Lib.hid (b1.out.trans (k2.out.mono b1.out.size))
  have K2 := Lib.hid (K1.out.kept k2.out)
  have TYC := Lib.hid (show TV.At ⟨Y, k, yc, os, Y', N, yc', rs⟩ wC from ⟨(row_ints o1 (show k ≤ 9223372036854775807 by omega) hfo.out).kept zC.out, (row_ints o2 (show N ≤ 9223372036854775807 by omega) hfr.out).kept zC.out, by show k ≤ 17592186044416; omega, by show N ≤ 17592186044416; omega⟩)
  clear j0 j1 j2 j3 j4 j5 j6
  clear hb2 GO o1 o2 K1
  go_upto_region 4 with (fail)
  rw [hwC.out]
  obtain ⟨⟨j0, j1⟩, ⟨j2, j3⟩, ⟨j4, j5⟩, j6⟩ := (K2.out).see
  go_wp2_with fail
  refine (FI.out wC b2.out).mono ?_
  rintro e w3 ⟨rfl, hb3⟩
  have b3 := Lib.hid (b2.out.trans (hb3.mono b2.out.size))
  have K3 := Lib.hid (K2.out.kept hb3)
  have JY3 := Lib.hid (JY.out.kept hb3)
  have TY3 := Lib.hid (TYC.out.kept hb3)
  clear j0 j1 j2 j3 j4 j5 j6
  clear hb3 FI K2 JY TYC
  obtain ⟨⟨j0, j1⟩, ⟨j2, j3⟩, ⟨j4, j5⟩, j6⟩ := (K3.out).see
  go_wp2_with fail
  refine (TO.out w3 b3.out).mono ?_
  rintro e w4 ⟨A6, p6, rfl, o6, hb4⟩
  have b4 := Lib.hid (b3.out.trans (hb4.mono b3.out.size))
  have K4 := Lib.hid (K3.out.kept hb4)
  have JY4 := Lib.hid (JY3.out.kept hb4)
  have TY := Lib.hid (TY3.out.kept hb4)
  have I6 := Lib.hid (row_ints o6 (show k ≤ 9223372036854775807 by omega) hfo.out)
  clear j0 j1 j2 j3 j4 j5 j6
  clear hb4 TO K3 JY3 TY3 o6
  go_upto_region 8 with (fail)
  have SK := Lib.hid (fun w' (hb : Below w4.heap.size w4 w') => (show w'.cell? ⟨w2.heap.size, 0, none⟩ = some (.slice Y k yc) ∧ w'.cell? ⟨w2.heap.size, 1, none⟩ = some (.slice Y' N yc') ∧ w'.cell? ⟨w.heap.size, 0, none⟩ = some (.slice W.sa W.sl W.sc) ∧ w'.cell? ⟨w.heap.size, 2, none⟩ = some (.slice x.sa x.sl x.sc) ∧ w'.cell? ⟨w.heap.size, 6, none⟩ = some (.int .i64 s) ∧ w'.cell? ⟨w.heap.size, 1, none⟩ = some (.slice W.ca W.cl W.cc) ∧ w'.cell? ⟨w.heap.size, 3, none⟩ = some (.slice x.ca x.cl x.cc) from ⟨(JY4.out.kept hb).see.1, (JY4.out.kept hb).see.2.1, (K4.out.kept hb).see.1.1, (K4.out.kept hb).see.2.1.1, (K4.out.kept hb).see.2.2.2, (K4.out.kept hb).see.1.2, (K4.out.kept hb).see.2.1.2⟩))
  have t1 := Lib.hid (show Below w4.heap.size w4 w4.drew from (Below.refl _ _).drew)
  refine wp_region_held_drew (S := fun w' => w'.cell? ⟨w2.heap.size, 0, none⟩ = some (.slice Y k yc) ∧ w'.cell? ⟨w2.heap.size, 1, none⟩ = some (.slice Y' N yc') ∧ w'.cell? ⟨w.heap.size, 0, none⟩ = some (.slice W.sa W.sl W.sc) ∧ w'.cell? ⟨w.heap.size, 2, none⟩ = some (.slice x.sa x.sl x.sc) ∧ w'.cell? ⟨w.heap.size, 6, none⟩ = some (.int .i64 s) ∧ w'.cell? ⟨w.heap.size, 1, none⟩ = some (.slice W.ca W.cl W.cc) ∧ w'.cell? ⟨w.heap.size, 3, none⟩ = some (.slice x.ca x.cl x.cc)) (by kernel_rfl) (SK.out _ t1.out) (fun hHeld => ?_)
  refine held_take 0 (.int .i64 0) rfl (by kernel_rfl) (by kernel_rfl) (by kernel_rfl) (fun _ _ _ h => h) (by rfl) (by intro w' hS; go_simp) (by assumption) ?_
  try simp only [Act.put, List.setIfInBounds_toArray, List.set_cons_zero, List.set_cons_succ]
  refine held_take 1 (.bool true) rfl (by kernel_rfl) (by kernel_rfl) (by kernel_rfl) (fun _ _ _ h => h) (by rfl) (by intro w' hS; go_simp) (by assumption) ?_
  try simp only [Act.put, List.setIfInBounds_toArray, List.set_cons_zero, List.set_cons_succ]
  refine held_take 2 (.bool true) rfl (by kernel_rfl) (by kernel_rfl) (by kernel_rfl) (fun _ _ _ h => h) (by rfl) (by intro w' hS; go_simp) (by assumption) ?_
  try simp only [Act.put, List.setIfInBounds_toArray, List.set_cons_zero, List.set_cons_succ]
  refine held_take 3 (.agg #[.slice Y k yc, .slice Y' N yc']) rfl (by kernel_rfl) (by kernel_rfl) (by kernel_rfl) (fun _ _ _ h => h) (by rfl) (by intro w' hS; go_simp) (by assumption) ?_
  try simp only [Act.put, List.setIfInBounds_toArray, List.set_cons_zero, List.set_cons_succ]
  refine held_take 4 (.slice A6 k p6) rfl (by kernel_rfl) (by kernel_rfl) (by kernel_rfl) (fun _ _ _ h => h) (by rfl) (by intro w' hS; go_simp) (by assumption) ?_
  try simp only [Act.put, List.setIfInBounds_toArray, List.set_cons_zero, List.set_cons_succ]
  refine held_take 5 (.pointer (some ⟨w.heap.size, 0, none⟩)) rfl (by kernel_rfl) (by kernel_rfl) (by kernel_rfl) (fun _ _ _ h => h) (by rfl) (by intro w' hS; go_simp) (by assumption) ?_
  try simp only [Act.put, List.setIfInBounds_toArray, List.set_cons_zero, List.set_cons_succ]
  refine held_take 6 (.pointer (some ⟨w.heap.size, 0, none⟩)) rfl (by kernel_rfl) (by kernel_rfl) (by kernel_rfl) (fun _ _ _ h => h) (by rfl) (by intro w' hS; go_simp) (by assumption) ?_
  try simp only [Act.put, List.setIfInBounds_toArray, List.set_cons_zero, List.set_cons_succ]
  refine held_take 7 (.slice W.sa W.sl W.sc) rfl (by kernel_rfl) (by kernel_rfl) (by kernel_rfl) (fun _ _ _ h => h) (by rfl) (by intro w' hS; go_simp) (by assumption) ?_
  try simp only [Act.put, List.setIfInBounds_toArray, List.set_cons_zero, List.set_cons_succ]
  refine held_take 8 (.pointer (some ⟨w.heap.size, 2, none⟩)) rfl (by kernel_rfl) (by kernel_rfl) (by kernel_rfl) (fun _ _ _ h => h) (by rfl) (by intro w' hS; go_simp) (by assumption) ?_
  try simp only [Act.put, List.setIfInBounds_toArray, List.set_cons_zero, List.set_cons_succ]
  refine held_take 9 (.pointer (some ⟨w.heap.size, 2, none⟩)) rfl (by kernel_rfl) (by kernel_rfl) (by kernel_rfl) (fun _ _ _ h => h) (by rfl) (by intro w' hS; go_simp) (by assumption) ?_
  try simp only [Act.put, List.setIfInBounds_toArray, List.set_cons_zero, List.set_cons_succ]
  refine held_take 10 (.slice x.sa x.sl x.sc) rfl (by kernel_rfl) (by kernel_rfl) (by kernel_rfl) (fun _ _ _ h => h) (by rfl) (by intro w' hS; go_simp) (by assumption) ?_
  try simp only [Act.put, List.setIfInBounds_toArray, List.set_cons_zero, List.set_cons_succ]
  refine held_take 11 (.pointer (some ⟨w.heap.size, 6, none⟩)) rfl (by kernel_rfl) (by kernel_rfl) (by kernel_rfl) (fun _ _ _ h => h) (by rfl) (by intro w' hS; go_simp) (by assumption) ?_
  try simp only [Act.put, List.setIfInBounds_toArray, List.set_cons_zero, List.set_cons_succ]
  refine held_take 12 (.int .i64 s) rfl (by kernel_rfl) (by kernel_rfl) (by kernel_rfl) (fun _ _ _ h => h) (by rfl) (by intro w' hS; go_simp) (by assumption) ?_
  try simp only [Act.put, List.setIfInBounds_toArray, List.set_cons_zero, List.set_cons_succ]
  refine held_take 14 (.pointer (some ⟨w.heap.size, 0, none⟩)) rfl (by kernel_rfl) (by kernel_rfl) (by kernel_rfl) (fun _ _ _ h => h) (by rfl) (by intro w' hS; go_simp) (by assumption) ?_
  try simp only [Act.put, List.setIfInBounds_toArray, List.set_cons_zero, List.set_cons_succ]
  refine held_take 15 (.agg #[.slice W.sa W.sl W.sc, .slice W.ca W.cl W.cc]) rfl (by kernel_rfl) (by kernel_rfl) (by kernel_rfl) (fun _ _ _ h => h) (by rfl) (by intro w' hS; go_simp) (by assumption) ?_
  try simp only [Act.put, List.setIfInBounds_toArray, List.set_cons_zero, List.set_cons_succ]
  refine held_take 17 (.pointer (some ⟨w.heap.size, 2, none⟩)) rfl (by kernel_rfl) (by kernel_rfl) (by kernel_rfl) (fun _ _ _ h => h) (by rfl) (by intro w' hS; go_simp) (by assumption) ?_
  try simp only [Act.put, List.setIfInBounds_toArray, List.set_cons_zero, List.set_cons_succ]
  refine held_take 18 (.agg #[.slice x.sa x.sl x.sc, .slice x.ca x.cl x.cc]) rfl (by kernel_rfl) (by kernel_rfl) (by kernel_rfl) (fun _ _ _ h => h) (by rfl) (by intro w' hS; go_simp) (by assumption) ?_
  try simp only [Act.put, List.setIfInBounds_toArray, List.set_cons_zero, List.set_cons_succ]
  refine held_call 13 (by kernel_rfl) rfl (by rfl) (fun K hK => ?_)
  go_simp
  refine (OF.out w4.drew (b4.out.trans (t1.out.mono b4.out.size))).mono ?_
  rintro e wq1 ⟨rfl, hb⟩
  have bq1 := Lib.hid (t1.out.trans ((hb).mono t1.out.size))
  go_wp2_with fail
  refine hK.out _ _ (SK.out _ bq1.out) (fun hHeld => ?_)
  try simp only [Act.put, List.setIfInBounds_toArray, List.set_cons_zero, List.set_cons_succ]
  refine held_call 16 (by kernel_rfl) rfl (by rfl) (fun K hK => ?_)
  go_simp
  refine (CW.out wq1 (b4.out.trans (bq1.out.mono b4.out.size))).mono ?_
  rintro e wq2 ⟨A1, p1, rfl, oc, hb⟩
  have bq2 := Lib.hid (bq1.out.trans ((hb).mono bq1.out.size))
  have i1 := Lib.hid (row_ints oc (show W.cl ≤ 9223372036854775807 by omega) hf1.out)
  have kk1 := Lib.hid hb
  clear oc
  go_wp2_with fail
  refine hK.out _ _ (SK.out _ bq2.out) (fun hHeld => ?_)
  try simp only [Act.put, List.setIfInBounds_toArray, List.set_cons_zero, List.set_cons_succ]
  refine held_call 19 (by kernel_rfl) rfl (by rfl) (fun K hK => ?_)
  go_simp
  refine (CX.out wq2 (b4.out.trans (bq2.out.mono b4.out.size))).mono ?_
  rintro e wq3 ⟨A2, p2, rfl, oc, hb⟩
  have bq3 := Lib.hid (bq2.out.trans ((hb).mono bq2.out.size))
  have i2 := Lib.hid (row_ints oc (show x.cl ≤ 9223372036854775807 by omega) hf2.out)
  have kk2 := Lib.hid hb
  clear oc
  go_wp2_with fail
  refine hK.out _ _ (SK.out _ bq3.out) (fun hHeld => ?_)
  try simp only [Act.put, List.setIfInBounds_toArray, List.set_cons_zero, List.set_cons_succ]
  refine held_call 20 (by kernel_rfl) rfl (by rfl) (fun K hK => ?_)
  go_simp
  refine (RU.out A1 p1 A2 p2 wq3 (i1.out.kept kk2.out) i2.out).mono ?_
  rintro e wq4 ⟨A4, p4, rfl, i4, hb⟩
  have bq4 := Lib.hid (bq3.out.trans ((hb).mono bq3.out.size))
  replace i4 := Lib.hid i4
  go_wp2_with fail
  refine hK.out _ _ (SK.out _ bq4.out) (fun hHeld => ?_)
  try simp only [Act.put, List.setIfInBounds_toArray, List.set_cons_zero, List.set_cons_succ]
  refine held_call 21 (by kernel_rfl) rfl (by rfl) (fun K hK => ?_)
  go_simp
  refine (lawsame_any ⟨Y, k, yc, os, Y', N, yc', rs⟩ A6 k p6 A4 p4 wq4 (TY.out.kept bq4.out) (I6.out.kept bq4.out) i4.out).mono ?_
  rintro e wq5 ⟨rfl, hb⟩
  have bq5 := Lib.hid (bq4.out.trans ((hb).mono bq4.out.size))
  go_wp2_with fail
  refine hK.out _ _ (SK.out _ bq5.out) (fun hHeld => ?_)
  try simp only [Act.put, List.setIfInBounds_toArray, List.set_cons_zero, List.set_cons_succ]
  refine held_take 22 (.bool true) rfl (by kernel_rfl) (by kernel_rfl) (by kernel_rfl) (fun _ _ _ h => h) (by rfl) (by intro w' hS; go_simp) (by assumption) ?_
  try simp only [Act.put, List.setIfInBounds_toArray, List.set_cons_zero, List.set_cons_succ]
  refine held_take 23 (.bool true) rfl (by kernel_rfl) (by kernel_rfl) (by kernel_rfl) (fun _ _ _ h => h) (by rfl) (by intro w' hS; go_simp) (by assumption) ?_
  try simp only [Act.put, List.setIfInBounds_toArray, List.set_cons_zero, List.set_cons_succ]
  refine held_call 24 (by kernel_rfl) rfl (by rfl) (fun K hK => ?_)
  go_simp
  refine (awake07_any wq5).mono ?_
  rintro e wq6 ⟨rfl, hb⟩
  have bq6 := Lib.hid (bq5.out.trans ((hb).mono bq5.out.size))
  go_wp2_with fail
  refine hK.out _ _ (SK.out _ bq6.out) (fun hHeld => ?_)
  try simp only [Act.put, List.setIfInBounds_toArray, List.set_cons_zero, List.set_cons_succ]
  refine held_take 25 (.bool true) rfl (by kernel_rfl) (by kernel_rfl) (by kernel_rfl) (fun _ _ _ h => h) (by rfl) (by intro w' hS; go_simp) (by assumption) ?_
  try simp only [Act.put, List.setIfInBounds_toArray, List.set_cons_zero, List.set_cons_succ]
  refine held_take 26 (.bool true) rfl (by kernel_rfl) (by kernel_rfl) (by kernel_rfl) (fun _ _ _ h => h) (by rfl) (by intro w' hS; go_simp) (by assumption) ?_
  try simp only [Act.put, List.setIfInBounds_toArray, List.set_cons_zero, List.set_cons_succ]
  refine wpAnyH_done (by kernel_rfl) ?_ _
  go_wp2_with fail
  go_ret
  exact ⟨rfl, b4.out.trans (bq6.out.mono b4.out.size)⟩

theorem convGoes_walk (W x G : TV) (s : Int) (w : World) (hA : (W.At w ∧ W.CapS) ∧ (x.At w ∧ x.CapS) ∧ G.At w ∧ -9223372036854775808 ≤ s ∧ s ≤ 9223372036854775807) :
    Calls Try.prog 4 #[.agg #[.slice W.sa W.sl W.sc, .slice W.ca W.cl W.cc, .slice x.sa x.sl x.sc, .slice x.ca x.cl x.cc, .slice G.sa G.sl G.sc, .slice G.ca G.cl G.cc, .int .i64 s]] w fun e w' => e = .returned (.bool true) ∧ Below w.heap.size w w' := by
  obtain ⟨hW, hx, hG, hs1, hs2⟩ := hA
  cases hs : smallC W x G
  · exact convGoes_small W x G s w hs
  by_cases hE : tensE W x s = 0
  · exact convGoes_ok W x G s w hW hx hs1 hs2 hs hE
  · exact convGoes_bad W x G s w hW hx hs1 hs2 hs hE
end Go.Proofs.Ytapelgjnnccfoaa

