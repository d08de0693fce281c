import Derived.Test.YtapelgjnnccfoaaJ10
import Derived.Test.YtapelgjnnccfoaaJ15
import Derived.Test.YtapelgjnnccfoaaJ16
import Derived.Test.YtapelgjnnccfoaaJ17
/-
  The walk of the statement ConvBacks.
-/
namespace Go.Proofs.Ytapelgjnnccfoaa
open Go.RowKit
set_option linter.unusedVariables false
set_option linter.unusedSimpArgs false

theorem gOk_parts {G : TV} {os : List Int} (h : gOk G os = true) : rightT G.ss G.cl = true ∧ G.ss = os := by
  unfold gOk at h
  rw [Bool.and_eq_true] at h
  exact ⟨h.1, of_decide_eq_true h.2⟩

theorem refback1_any (W x G : TV) (s : Int) (hE : tensE W x s = 0) (hG : gOk G (outS W.ss x.ss s) = true) (wa : Option Addr) (wc : Nat) (xa : Option Addr) (xc : Nat) (ga : Option Addr) (gc : Nat) (w : World) (hw : IntsAt w wa W.cl W.cs) (hx : IntsAt w xa x.cl x.cs) (hg : IntsAt w ga G.cl G.cs) :
    Calls Try.prog 17 #[planV (planOf W.ss x.ss s), .int .i64 1, .slice wa W.cl wc, .slice xa x.cl xc, .slice ga G.cl gc] w fun e w' => ∃ A c, e = .returned (.slice A W.cl c) ∧ IntsAt w' A W.cl (runP W.cl (backV1 G.cs x.cs) (touchL W.ss x.ss s)) ∧ Below w.heap.size w w' := by
  obtain ⟨r1, r2, r3⟩ := tens_parts hE
  obtain ⟨g1, g2⟩ := gOk_parts hG
  have F := plan_facts r3
  have a1 := (rightT_parts r1).2
  have a2 := (rightT_parts r2).2
  have a3 := (rightT_parts g1).2
  rw [g2] at a3
  have b1 := (rightS_parts (rightT_parts r1).1).2.2.2
  have b2 := (rightS_parts (rightT_parts r2).1).2.2.2
  have b3 := (rightS_parts (told_parts r3).2.2).2.2.2
  have k := F.kernel
  have i := F.inn
  have ou := F.out
  have et : touchL W.ss x.ss s = (planOf W.ss x.ss s).all := by unfold touchL; rw [if_pos r3]
  rw [et]
  exact refrun1 _ _ _ _ F wa W.cl wc W.cs xa x.cl xc x.cs ga gc G.cs w hw hx G.cl hg (by omega) (by omega) (by omega) (by omega) (by omega) (by omega)

theorem refback2_any (W x G : TV) (s : Int) (hE : tensE W x s = 0) (hG : gOk G (outS W.ss x.ss s) = true) (wa : Option Addr) (wc : Nat) (xa : Option Addr) (xc : Nat) (ga : Option Addr) (gc : Nat) (w : World) (hw : IntsAt w wa W.cl W.cs) (hx : IntsAt w xa x.cl x.cs) (hg : IntsAt w ga G.cl G.cs) :
    Calls Try.prog 17 #[planV (planOf W.ss x.ss s), .int .i64 2, .slice wa W.cl wc, .slice xa x.cl xc, .slice ga G.cl gc] w fun e w' => ∃ A c, e = .returned (.slice A x.cl c) ∧ IntsAt w' A x.cl (runP x.cl (backV2 G.cs W.cs) (touchL W.ss x.ss s)) ∧ Below w.heap.size w w' := by
  obtain ⟨r1, r2, r3⟩ := tens_parts hE
  obtain ⟨g1, g2⟩ := gOk_parts hG
  have F := plan_facts r3
  have a1 := (rightT_parts r1).2
  have a2 := (rightT_parts r2).2
  have a3 := (rightT_parts g1).2
  rw [g2] at a3
  have b1 := (rightS_parts (rightT_parts r1).1).2.2.2
  have b2 := (rightS_parts (rightT_parts r2).1).2.2.2
  have b3 := (rightS_parts (told_parts r3).2.2).2.2.2
  have k := F.kernel
  have i := F.inn
  have ou := F.out
  have et : touchL W.ss x.ss s = (planOf W.ss x.ss s).all := by unfold touchL; rw [if_pos r3]
  rw [et]
  exact refrun2 _ _ _ _ F wa W.cl wc W.cs xa x.cl xc x.cs ga gc G.cs w hw hx G.cl hg (by omega) (by omega) (by omega) (by omega) (by omega) (by omega)

/-- A block holds a plan. -/
def P8At (w : World) (K : Nat) (q0 q1 q2 q3 q4 q5 q6 q7 : Value) : Prop := w.heap[K]? = some (.cells #[q0, q1, q2, q3, q4, q5, q6, q7] 45 (0, 0))
section
variable {w w' : World} {K : Nat} {q0 q1 q2 q3 q4 q5 q6 q7 : Value}
theorem P8At.lt (h : P8At w K q0 q1 q2 q3 q4 q5 q6 q7) : K < w.heap.size := (Array.getElem?_eq_some_iff.1 h).1
theorem P8At.kept (h : P8At w K q0 q1 q2 q3 q4 q5 q6 q7) (hb : Below w.heap.size w w') : P8At w' K q0 q1 q2 q3 q4 q5 q6 q7 := (hb.block K h.lt).trans h
theorem P8At.see (h : P8At w K q0 q1 q2 q3 q4 q5 q6 q7) : w.cell? ⟨K, 0, none⟩ = some q0 ∧ w.cell? ⟨K, 1, none⟩ = some q1 ∧ w.cell? ⟨K, 2, none⟩ = some q2 ∧ w.cell? ⟨K, 3, none⟩ = some q3 ∧ w.cell? ⟨K, 4, none⟩ = some q4 ∧ w.cell? ⟨K, 5, none⟩ = some q5 ∧ w.cell? ⟨K, 6, none⟩ = some q6 ∧ w.cell? ⟨K, 7, none⟩ = some q7 := by
  refine ⟨?_, ?_, ?_, ?_, ?_, ?_, ?_, ?_⟩ <;> (rw [Joins.cell_of_block h]; rfl)
end
theorem plan8_box (w : World) (q0 q1 q2 q3 q4 q5 q6 q7 : Value) : ∃ wB, Hid (w.alloc (.cells #[q0, q1, q2, q3, q4, q5, q6, q7] 45) = wB) ∧ Hid (P8At wB w.heap.size q0 q1 q2 q3 q4 q5 q6 q7) ∧ Hid (Below w.heap.size w wB) ∧ Hid (wB.heap.size = w.heap.size + 1) :=
  ⟨_, Lib.hid rfl, Lib.hid (World.alloc_heap_new w _), Lib.hid ((Below.refl _ _).alloc (Nat.le_refl _) _), Lib.hid (by simp)⟩

theorem told_some_any (W x : TV) (s : Int) (w : World) (h : W.At w) (h' : x.At w) :
    Calls Try.prog 11 #[.slice W.sa W.sl W.sc, .slice x.sa x.sl x.sc, .int .i64 s] w fun e w' => ∃ A n c v, e = .returned (.tuple #[.slice A n c, .int .i64 v]) ∧ Below w.heap.size w w' := by
  refine (told_any W x s w h h').mono fun e w' hr => ?_
  by_cases h0 : toldE W.ss x.ss s = 0
  · obtain ⟨A, c, he, -, hb⟩ := hr.1 h0
    exact ⟨_, _, _, _, he, hb⟩
  · obtain ⟨he, hb⟩ := hr.2 h0
    exact ⟨_, _, _, _, he, hb⟩

set_option maxRecDepth 100000 in
set_option maxHeartbeats 8000000 in
theorem convBacks_small (W x G : TV) (s : Int) (w : World) (hs : smallC W x G = false) :
    Calls Try.prog 5 #[.agg #[.slice W.sa W.sl W.sc, .slice W.ca W.cl W.cc, .slice x.sa x.sl x.sc, .slice x.ca x.cl x.cc, .slice G.sa G.sl G.sc, .slice G.ca G.cl G.cc, .int .i64 s]] w fun e w' => e = .returned (.bool true) ∧ Below w.heap.size w w' := by
  obtain ⟨wA, hwA, J, z, -⟩ := case7_box w (.slice W.sa W.sl W.sc) (.slice W.ca W.cl W.cc) (.slice x.sa x.sl x.sc) (.slice x.ca x.cl x.cc) (.slice G.sa G.sl G.sc) (.slice G.ca G.cl G.cc) (.int .i64 s)
  have SM := small7_any W x G s wA
  rw [hs] at SM
  have SM' := Lib.hid SM
  clear SM hs
  obtain ⟨⟨j0, j1⟩, ⟨j2, j3⟩, ⟨j4, j5⟩, j6⟩ := (J.out).see
  go_enter Try.func5, Try.ntmps5
  go_upto_region 1 with (fail)
  rw [hwA.out]
  go_wp2_with fail
  refine SM'.out.mono ?_
  rintro e w1 ⟨rfl, hb1⟩
  have b1z := Lib.hid (z.out.trans (hb1.mono z.out.size))
  clear j0 j1 j2 j3 j4 j5 j6
  clear SM' hb1
  go_wp2_with fail
  refine (awake07_any _).mono ?_
  rintro e w9 ⟨rfl, hb9⟩
  go_wp2_with fail
  go_ret
  exact ⟨rfl, b1z.out.trans (hb9.mono b1z.out.size)⟩

set_option maxRecDepth 100000 in
set_option maxHeartbeats 8000000 in
theorem convBacks_no (W x G : TV) (s : Int) (w : World) (hW : W.At w ∧ W.CapS) (hx : x.At w ∧ x.CapS) (hg : G.At w) (hs1 : -9223372036854775808 ≤ s) (hs2 : s ≤ 9223372036854775807) (hs : smallC W x G = true) (hE : tensE W x s ≠ 0) :
    Calls Try.prog 5 #[.agg #[.slice W.sa W.sl W.sc, .slice W.ca W.cl W.cc, .slice x.sa x.sl x.sc, .slice x.ca x.cl x.cc, .slice G.sa G.sl G.sc, .slice G.ca G.cl G.cc, .int .i64 s]] w fun e w' => e = .returned (.bool true) ∧ Below w.heap.size w w' := by
  have SM := Lib.hid (fun w1 => hs ▸ small7_any W x G s w1)
  have GO := fun w1 (hb : Below w.heap.size w w1) => convback_no W x G s w1 (hW.1.kept hb) (hx.1.kept hb) (hg.kept hb) hW.2 hx.2 hs1 hs2 hE
  have FI := fun w1 (hb : Below w.heap.size w w1) => refused_any W x G s w1 (hW.1.kept hb) (hx.1.kept hb)
  have TO := Lib.hid (fun w1 (hb : Below w.heap.size w w1) => told_some_any W x s w1 (hW.1.kept hb) (hx.1.kept hb))
  obtain ⟨v, hv⟩ : ∃ v, tensE W x s = v := ⟨_, rfl⟩
  rw [hv] at FI GO hE
  replace GO := Lib.hid GO
  replace FI := Lib.hid FI
  clear hs hW hx hg hv
  obtain ⟨wA, hwA, J, z, -⟩ := case7_box w (.slice W.sa W.sl W.sc) (.slice W.ca W.cl W.cc) (.slice x.sa x.sl x.sc) (.slice x.ca x.cl x.cc) (.slice G.sa G.sl G.sc) (.slice G.ca G.cl G.cc) (.int .i64 s)
  obtain ⟨⟨j0, j1⟩, ⟨j2, j3⟩, ⟨j4, j5⟩, j6⟩ := (J.out).see
  go_enter Try.func5, Try.ntmps5
  go_upto_region 1 with (fail)
  rw [hwA.out]
  go_wp2_with fail
  refine (SM.out wA).mono ?_
  rintro e w1 ⟨rfl, hb1⟩
  have b1 := Lib.hid (z.out.trans (hb1.mono z.out.size))
  have K1 := Lib.hid (J.out.kept hb1)
  clear j0 j1 j2 j3 j4 j5 j6
  clear SM hb1
  obtain ⟨⟨j0, j1⟩, ⟨j2, j3⟩, ⟨j4, j5⟩, j6⟩ := (K1.out).see
  go_wp2_with fail
  refine (GO.out w1 b1.out).mono ?_
  rintro e w2 ⟨rfl, hb2⟩
  obtain ⟨wC, hwC, JY, zC, nC⟩ := gd_box w2 (.slice none 0 0) (.slice none 0 0) (.slice none 0 0) (.slice none 0 0)
  have k2 := Lib.hid (hb2.trans (zC.out.mono hb2.size))
  have b2 := Lib.hid (b1.out.trans (k2.out.mono b1.out.size))
  have K2 := Lib.hid (K1.out.kept k2.out)
  clear j0 j1 j2 j3 j4 j5 j6
  clear hb2 GO K1
  go_upto_region 4 with (fail)
  rw [hwC.out]
  obtain ⟨⟨j0, j1⟩, ⟨j2, j3⟩, ⟨j4, j5⟩, j6⟩ := (K2.out).see
  go_wp2_with fail
  refine (FI.out wC b2.out).mono ?_
  rintro e w3 ⟨rfl, hb3⟩
  have b3 := Lib.hid (b2.out.trans (hb3.mono b2.out.size))
  have K3 := Lib.hid (K2.out.kept hb3)
  have JY3 := Lib.hid (JY.out.kept hb3)
  clear j0 j1 j2 j3 j4 j5 j6
  clear hb3 FI K2 JY
  obtain ⟨⟨j0, j1⟩, ⟨j2, j3⟩, ⟨j4, j5⟩, j6⟩ := (K3.out).see
  go_wp2_with fail
  refine (TO.out w3 b3.out).mono ?_
  rintro e w4 ⟨A6, k, p6, v6, rfl, hb4⟩
  have b4 := Lib.hid (b3.out.trans (hb4.mono b3.out.size))
  obtain ⟨l0, l1, l2, l3⟩ := (JY3.out.kept hb4).see
  clear j0 j1 j2 j3 j4 j5 j6
  clear hb4 TO K3 JY3
  go_wp2_with fail
  refine (awake07_any _).mono ?_
  rintro e w9 ⟨rfl, hb9⟩
  go_wp2_with fail
  go_ret
  exact ⟨rfl, b4.out.trans (hb9.mono b4.out.size)⟩

set_option maxRecDepth 100000 in
set_option maxHeartbeats 8000000 in
theorem convBacks_bad (W x G : TV) (s : Int) (w : World) (hW : W.At w ∧ W.CapS) (hx : x.At w ∧ x.CapS) (hg : G.At w) (hs1 : -9223372036854775808 ≤ s) (hs2 : s ≤ 9223372036854775807) (hs : smallC W x G = true) (hE : tensE W x s = 0) (hG : gOk G (outS W.ss x.ss s) = false) :
    Calls Try.prog 5 #[.agg #[.slice W.sa W.sl W.sc, .slice W.ca W.cl W.cc, .slice x.sa x.sl x.sc, .slice x.ca x.cl x.cc, .slice G.sa G.sl G.sc, .slice G.ca G.cl G.cc, .int .i64 s]] w fun e w' => e = .returned (.bool true) ∧ Below w.heap.size w w' := by
  obtain ⟨r1, r2, r3⟩ := tens_parts hE
  have hk6 : x.ss.length ≤ 9 := by have := hx.1.1.1; have := (smallC_parts hs).1.2; omega
  have hfo := outS_fit r3
  have SM := Lib.hid (fun w1 => hs ▸ small7_any W x G s w1)
  have FI := Lib.hid (fun w1 (hb : Below w.heap.size w w1) => hE ▸ refused_any W x G s w1 (hW.1.kept hb) (hx.1.kept hb))
  have TO := fun w1 (hb : Below w.heap.size w w1) => (told_any W x s w1 (hW.1.kept hb) (hx.1.kept hb)).mono fun e w' h => h.1 r3
  have RG := fun w1 (hb : Below w.heap.size w w1) => rright_any G.sa G.sl G.sc G.ss G.ca G.cl G.cc w1 (hg.1.kept hb) (by have := hg.2.2.2; omega)
  have GO := Lib.hid (fun w1 (hb : Below w.heap.size w w1) => convback_bad W x G s w1 (hW.1.kept hb) (hx.1.kept hb) (hg.kept hb) hW.2 hx.2 hs1 hs2 hE hG)
  obtain ⟨os, hos⟩ : ∃ os, outS W.ss x.ss s = os := ⟨_, rfl⟩
  obtain ⟨k, hk⟩ : ∃ k, x.ss.length = k := ⟨_, rfl⟩
  rw [hos, hk] at TO
  rw [hos] at hfo hG
  rw [hk] at hk6
  replace hfo := Lib.hid hfo
  replace TO := Lib.hid TO
  have RS := fun A p w1 (hb : Below w.heap.size w w1) (hI : IntsAt w1 A k os) => same_any G.sa G.sl G.sc G.ss A k p os w1 (hg.1.kept hb) hI
  have hG2 := Lib.hid hG
  clear hos hk r1 r2 r3 hW hx hg hs hE hG
  obtain ⟨wA, hwA, J, z, -⟩ := case7_box w (.slice W.sa W.sl W.sc) (.slice W.ca W.cl W.cc) (.slice x.sa x.sl x.sc) (.slice x.ca x.cl x.cc) (.slice G.sa G.sl G.sc) (.slice G.ca G.cl G.cc) (.int .i64 s)
  cases hb0 : rightT G.ss G.cl
  · rw [hb0] at RG
    replace RG := Lib.hid RG
    clear RS hG2 hb0
    obtain ⟨⟨j0, j1⟩, ⟨j2, j3⟩, ⟨j4, j5⟩, j6⟩ := (J.out).see
    go_enter Try.func5, Try.ntmps5
    go_upto_region 1 with (fail)
    rw [hwA.out]
    go_wp2_with fail
    refine (SM.out wA).mono ?_
    rintro e w1 ⟨rfl, hb1⟩
    have b1 := Lib.hid (z.out.trans (hb1.mono z.out.size))
    have K1 := Lib.hid (J.out.kept hb1)
    clear j0 j1 j2 j3 j4 j5 j6
    clear SM hb1
    obtain ⟨⟨j0, j1⟩, ⟨j2, j3⟩, ⟨j4, j5⟩, j6⟩ := (K1.out).see
    go_wp2_with fail
    refine (GO.out w1 b1.out).mono ?_
    rintro e w2 ⟨rfl, hb2⟩
    obtain ⟨wC, hwC, JY, zC, nC⟩ := gd_box w2 (.slice none 0 0) (.slice none 0 0) (.slice none 0 0) (.slice none 0 0)
    have k2 := Lib.hid (hb2.trans (zC.out.mono hb2.size))
    have b2 := Lib.hid (b1.out.trans (k2.out.mono b1.out.size))
    have K2 := Lib.hid (K1.out.kept k2.out)
    clear j0 j1 j2 j3 j4 j5 j6
    clear hb2 GO K1
    go_upto_region 4 with (fail)
    rw [hwC.out]
    obtain ⟨⟨j0, j1⟩, ⟨j2, j3⟩, ⟨j4, j5⟩, j6⟩ := (K2.out).see
    go_wp2_with fail
    refine (FI.out wC b2.out).mono ?_
    rintro e w3 ⟨rfl, hb3⟩
    have b3 := Lib.hid (b2.out.trans (hb3.mono b2.out.size))
    have K3 := Lib.hid (K2.out.kept hb3)
    have JY3 := Lib.hid (JY.out.kept hb3)
    clear j0 j1 j2 j3 j4 j5 j6
    clear hb3 FI K2 JY
    obtain ⟨⟨j0, j1⟩, ⟨j2, j3⟩, ⟨j4, j5⟩, j6⟩ := (K3.out).see
    go_wp2_with fail
    refine (TO.out w3 b3.out).mono ?_
    rintro e w4 ⟨A6, p6, rfl, o6, hb4⟩
    have b4 := Lib.hid (b3.out.trans (hb4.mono b3.out.size))
    have K4 := Lib.hid (K3.out.kept hb4)
    have JY4 := Lib.hid (JY3.out.kept hb4)
    have I6 := Lib.hid (row_ints o6 (show k ≤ 9223372036854775807 by omega) hfo.out)
    clear j0 j1 j2 j3 j4 j5 j6
    clear hb4 TO K3 JY3 o6
    obtain ⟨⟨j0, j1⟩, ⟨j2, j3⟩, ⟨j4, j5⟩, j6⟩ := (K4.out).see
    go_wp2_with fail
    refine (RG.out w4 b4.out).mono ?_
    rintro e w5 ⟨rfl, hb5⟩
    have b5 := Lib.hid (b4.out.trans (hb5.mono b4.out.size))
    have K5 := Lib.hid (K4.out.kept hb5)
    have JY5 := Lib.hid (JY4.out.kept hb5)
    have I65 := Lib.hid (I6.out.kept hb5)
    clear j0 j1 j2 j3 j4 j5 j6
    clear hb5 RG K4 JY4 I6
    obtain ⟨l0, l1, l2, l3⟩ := JY5.out.see
    obtain ⟨⟨j0, j1⟩, ⟨j2, j3⟩, ⟨j4, j5⟩, j6⟩ := (K5.out).see
    go_wp2_with fail
    refine (awake07_any _).mono ?_
    rintro e w9 ⟨rfl, hb9⟩
    go_wp2_with fail
    go_ret
    exact ⟨rfl, b5.out.trans (hb9.mono b5.out.size)⟩
  · have hsm : sameL G.ss os = false := by
      have := hG2.out
      unfold gOk at this
      rw [hb0] at this
      simpa using this
    rw [hb0] at RG
    replace RG := Lib.hid RG
    simp only [hsm] at RS
    replace RS := Lib.hid RS
    clear hG2 hb0 hsm
    obtain ⟨⟨j0, j1⟩, ⟨j2, j3⟩, ⟨j4, j5⟩, j6⟩ := (J.out).see
    go_enter Try.func5, Try.ntmps5
    go_upto_region 1 with (fail)
    rw [hwA.out]
    go_wp2_with fail
    refine (SM.out wA).mono ?_
    rintro e w1 ⟨rfl, hb1⟩
    have b1 := Lib.hid (z.out.trans (hb1.mono z.out.size))
    have K1 := Lib.hid (J.out.kept hb1)
    clear j0 j1 j2 j3 j4 j5 j6
    clear SM hb1
    obtain ⟨⟨j0, j1⟩, ⟨j2, j3⟩, ⟨j4, j5⟩, j6⟩ := (K1.out).see
    go_wp2_with fail
    refine (GO.out w1 b1.out).mono ?_
    rintro e w2 ⟨rfl, hb2⟩
    obtain ⟨wC, hwC, JY, zC, nC⟩ := gd_box w2 (.slice none 0 0) (.slice none 0 0) (.slice none 0 0) (.slice none 0 0)
    have k2 := Lib.hid (hb2.trans (zC.out.mono hb2.size))
    have b2 := Lib.hid (b1.out.trans (k2.out.mono b1.out.size))
    have K2 := Lib.hid (K1.out.kept k2.out)
    clear j0 j1 j2 j3 j4 j5 j6
    clear hb2 GO K1
    go_upto_region 4 with (fail)
    rw [hwC.out]
    obtain ⟨⟨j0, j1⟩, ⟨j2, j3⟩, ⟨j4, j5⟩, j6⟩ := (K2.out).see
    go_wp2_with fail
    refine (FI.out wC b2.out).mono ?_
    rintro e w3 ⟨rfl, hb3⟩
    have b3 := Lib.hid (b2.out.trans (hb3.mono b2.out.size))
    have K3 := Lib.hid (K2.out.kept hb3)
    have JY3 := Lib.hid (JY.out.kept hb3)
    clear j0 j1 j2 j3 j4 j5 j6
    clear hb3 FI K2 JY
    obtain ⟨⟨j0, j1⟩, ⟨j2, j3⟩, ⟨j4, j5⟩, j6⟩ := (K3.out).see
    go_wp2_with fail
    refine (TO.out w3 b3.out).mono ?_
    rintro e w4 ⟨A6, p6, rfl, o6, hb4⟩
    have b4 := Lib.hid (b3.out.trans (hb4.mono b3.out.size))
    have K4 := Lib.hid (K3.out.kept hb4)
    have JY4 := Lib.hid (JY3.out.kept hb4)
    have I6 := Lib.hid (row_ints o6 (show k ≤ 9223372036854775807 by omega) hfo.out)
    clear j0 j1 j2 j3 j4 j5 j6
    clear hb4 TO K3 JY3 o6
    obtain ⟨⟨j0, j1⟩, ⟨j2, j3⟩, ⟨j4, j5⟩, j6⟩ := (K4.out).see
    go_wp2_with fail
    refine (RG.out w4 b4.out).mono ?_
    rintro e w5 ⟨rfl, hb5⟩
    have b5 := Lib.hid (b4.out.trans (hb5.mono b4.out.size))
    have K5 := Lib.hid (K4.out.kept hb5)
    have JY5 := Lib.hid (JY4.out.kept hb5)
    have I65 := Lib.hid (I6.out.kept hb5)
    clear j0 j1 j2 j3 j4 j5 j6
    clear hb5 RG K4 JY4 I6
    obtain ⟨⟨j0, j1⟩, ⟨j2, j3⟩, ⟨j4, j5⟩, j6⟩ := (K5.out).see
    go_wp2_with fail
    have RS' := RS.out A6 p6 w5 b5.out I65.out
    refine RS'.mono ?_
    rintro e w6 ⟨rfl, m, rfl⟩
    have b6 := Lib.hid (below_drewN' b5.out m)
    obtain ⟨l0, l1, l2, l3⟩ := (JY5.out.kept (below_drewN' (Below.refl _ _) m)).see
    clear j0 j1 j2 j3 j4 j5 j6
    clear RS RS'
    go_wp2_with fail
    refine (awake07_any _).mono ?_
    rintro e w9 ⟨rfl, hb9⟩
    go_wp2_with fail
    go_ret
    exact ⟨rfl, b6.out.trans (hb9.mono b6.out.size)⟩

set_option maxRecDepth 100000 in
set_option maxHeartbeats 16000000 in
theorem convBacks_ok (W x G : TV) (s : Int) (w : World) (hW : W.At w ∧ W.CapS) (hx : x.At w ∧ x.CapS) (hg : G.At w) (hs1 : -9223372036854775808 ≤ s) (hs2 : s ≤ 9223372036854775807) (hs : smallC W x G = true) (hE : tensE W x s = 0) (hG : gOk G (outS W.ss x.ss s) = true) :
    Calls Try.prog 5 #[.agg #[.slice W.sa W.sl W.sc, .slice W.ca W.cl W.cc, .slice x.sa x.sl x.sc, .slice x.ca x.cl x.cc, .slice G.sa G.sl G.sc, .slice G.ca G.cl G.cc, .int .i64 s]] w fun e w' => e = .returned (.bool true) ∧ Below w.heap.size w w' := by
  obtain ⟨⟨s1, s2⟩, s3, s4, s5, s6⟩ := smallC_parts hs
  obtain ⟨g1, g2⟩ := gOk_parts hG
  obtain ⟨r1, r2, r3⟩ := tens_parts hE
  have hk6 : x.ss.length ≤ 9 := by have := hx.1.1.1; have := (smallC_parts hs).1.2; omega
  have hfo := outS_fit r3
  have SM := Lib.hid (fun w1 => hs ▸ small7_any W x G s w1)
  have FI := Lib.hid (fun w1 (hb : Below w.heap.size w w1) => hE ▸ refused_any W x G s w1 (hW.1.kept hb) (hx.1.kept hb))
  have TO := fun w1 (hb : Below w.heap.size w w1) => (told_any W x s w1 (hW.1.kept hb) (hx.1.kept hb)).mono fun e w' h => h.1 r3
  have RG := fun w1 (hb : Below w.heap.size w w1) => rright_any G.sa G.sl G.sc G.ss G.ca G.cl G.cc w1 (hg.1.kept hb) (by have := hg.2.2.2; omega)
  have GO := fun w1 (hb : Below w.heap.size w w1) => convback_ok W x G s w1 (hW.1.kept hb) (hx.1.kept hb) (hg.kept hb) hW.2 hx.2 hs1 hs2 hE hG
  have OF := fun w1 (hb : Below w.heap.size w w1) => refof_any W x s w1 (hW.1.kept hb) (hx.1.kept hb) r3
  have R1 := fun wa wc xa xc ga gc w1 hw hx hg => refback1_any W x G s hE hG wa wc xa xc ga gc w1 hw hx hg
  have R2 := fun wa wc xa xc ga gc w1 hw hx hg => refback2_any W x G s hE hG wa wc xa xc ga gc w1 hw hx hg
  have CW := Lib.hid (fun w1 (hb : Below w.heap.size w w1) => cells_any W.sa W.sl W.sc W.ca W.cl W.cc W.cs w1 (hW.1.2.1.kept hb) (by omega))
  have CX := Lib.hid (fun w1 (hb : Below w.heap.size w w1) => cells_any x.sa x.sl x.sc x.ca x.cl x.cc x.cs w1 (hx.1.2.1.kept hb) (by omega))
  have CG := Lib.hid (fun w1 (hb : Below w.heap.size w w1) => cells_any G.sa G.sl G.sc G.ca G.cl G.cc G.cs w1 (hg.2.1.kept hb) (by omega))
  have HW := Lib.hid (fun w1 (hb : Below w.heap.size w w1) => hW.1.1.kept hb)
  have Hx := Lib.hid (fun w1 (hb : Below w.heap.size w w1) => hx.1.1.kept hb)
  have hfW := Lib.hid hW.1.2.1.2.2.1
  have hfX := Lib.hid hx.1.2.1.2.2.1
  have hfG := Lib.hid hg.2.1.2.2.1
  obtain ⟨os, hos⟩ : ∃ os, outS W.ss x.ss s = os := ⟨_, rfl⟩
  obtain ⟨k, hk⟩ : ∃ k, x.ss.length = k := ⟨_, rfl⟩
  rw [hos, hk] at TO
  rw [hos] at hfo hG
  rw [hk] at hk6
  replace hfo := Lib.hid hfo
  replace TO := Lib.hid TO
  have RS := fun A p w1 (hb : Below w.heap.size w w1) (hI : IntsAt w1 A k os) => same_any G.sa G.sl G.sc G.ss A k p os w1 (hg.1.kept hb) hI
  rw [hos] at g2
  rw [g2] at RS
  simp only [sameL_self] at RS
  replace RS := Lib.hid RS
  rw [g1] at RG
  replace RG := Lib.hid RG
  obtain ⟨z1, hz1⟩ : ∃ z, runP W.cl (backV1 G.cs x.cs) (touchL W.ss x.ss s) = z := ⟨_, rfl⟩
  obtain ⟨z2, hz2⟩ : ∃ z, runP x.cl (backV2 G.cs W.cs) (touchL W.ss x.ss s) = z := ⟨_, rfl⟩
  obtain ⟨q0, q1, q2, q3, q4, q5, q6, q7, hpv⟩ : ∃ q0 q1 q2 q3 q4 q5 q6 q7 : Int, planV (planOf W.ss x.ss s) = .agg #[.int .i64 q0, .int .i64 q1, .int .i64 q2, .int .i64 q3, .int .i64 q4, .int .i64 q5, .int .i64 q6, .int .i64 q7] := ⟨_, _, _, _, _, _, _, _, rfl⟩
  rw [hz1, hz2] at GO
  rw [hpv] at OF
  rw [hpv, hz1] at R1
  rw [hpv, hz2] at R2
  replace GO := Lib.hid GO
  replace OF := Lib.hid OF
  replace R1 := Lib.hid R1
  replace R2 := Lib.hid R2
  have hWsl : W.sl ≤ 17592186044416 := hW.1.2.2.1
  have hxsl : x.sl ≤ 17592186044416 := hx.1.2.2.1
  clear hos hk r1 r2 r3 hW hx hg hs hE hG g1 g2 hz1 hz2 hpv s1 s2 s3
  obtain ⟨wA, hwA, J, z, -⟩ := case7_box w (.slice W.sa W.sl W.sc) (.slice W.ca W.cl W.cc) (.slice x.sa x.sl x.sc) (.slice x.ca x.cl x.cc) (.slice G.sa G.sl G.sc) (.slice G.ca G.cl G.cc) (.int .i64 s)
  obtain ⟨⟨j0, j1⟩, ⟨j2, j3⟩, ⟨j4, j5⟩, j6⟩ := (J.out).see
  go_enter Try.func5, Try.ntmps5
  go_upto_region 1 with (fail)
  rw [hwA.out]
  go_wp2_with fail
  refine (SM.out wA).mono ?_
  rintro e w1 ⟨rfl, hb1⟩
  have b1 := Lib.hid (z.out.trans (hb1.mono z.out.size))
  have K1 := Lib.hid (J.out.kept hb1)
  clear j0 j1 j2 j3 j4 j5 j6
  clear SM hb1
  obtain ⟨⟨j0, j1⟩, ⟨j2, j3⟩, ⟨j4, j5⟩, j6⟩ := (K1.out).see
  go_wp2_with fail
  refine (GO.out w1 b1.out).mono ?_
  rintro e w2 ⟨A1, c1, A2, c2, A3, c3, A4, c4, rfl, y1, y2, y3, y4, hb2⟩
  obtain ⟨wC, hwC, JY, zC, nC⟩ := gd_box w2 (.slice A1 W.sl c1) (.slice A2 W.cl c2) (.slice A3 x.sl c3) (.slice A4 x.cl c4)
  have k2 := Lib.hid (hb2.trans (zC.out.mono hb2.size))
  have b2 := Lib.hid (b1.out.trans (k2.out.mono b1.out.size))
  have K2 := Lib.hid (K1.out.kept k2.out)
  have TWC := Lib.hid (show TV.At ⟨A1, W.sl, c1, W.ss, A2, W.cl, c2, z1⟩ wC from ⟨y1.kept zC.out, y2.kept zC.out, hWsl, by show W.cl ≤ 17592186044416; omega⟩)
  have TXC := Lib.hid (show TV.At ⟨A3, x.sl, c3, x.ss, A4, x.cl, c4, z2⟩ wC from ⟨y3.kept zC.out, y4.kept zC.out, hxsl, by show x.cl ≤ 17592186044416; omega⟩)
  clear j0 j1 j2 j3 j4 j5 j6
  clear hb2 GO K1 y1 y2 y3 y4 hWsl hxsl
  go_upto_region 4 with (fail)
  rw [hwC.out]
  obtain ⟨⟨j0, j1⟩, ⟨j2, j3⟩, ⟨j4, j5⟩, j6⟩ := (K2.out).see
  go_wp2_with fail
  refine (FI.out wC b2.out).mono ?_
  rintro e w3 ⟨rfl, hb3⟩
  have b3 := Lib.hid (b2.out.trans (hb3.mono b2.out.size))
  have K3 := Lib.hid (K2.out.kept hb3)
  have JY3 := Lib.hid (JY.out.kept hb3)
  have TW3 := Lib.hid (TWC.out.kept hb3)
  have TX3 := Lib.hid (TXC.out.kept hb3)
  clear j0 j1 j2 j3 j4 j5 j6
  clear hb3 FI K2 JY TWC TXC
  obtain ⟨⟨j0, j1⟩, ⟨j2, j3⟩, ⟨j4, j5⟩, j6⟩ := (K3.out).see
  go_wp2_with fail
  refine (TO.out w3 b3.out).mono ?_
  rintro e w4 ⟨A6, p6, rfl, o6, hb4⟩
  have b4 := Lib.hid (b3.out.trans (hb4.mono b3.out.size))
  have K4 := Lib.hid (K3.out.kept hb4)
  have JY4 := Lib.hid (JY3.out.kept hb4)
  have I6 := Lib.hid (row_ints o6 (show k ≤ 9223372036854775807 by omega) hfo.out)
  have TW4 := Lib.hid (TW3.out.kept hb4)
  have TX4 := Lib.hid (TX3.out.kept hb4)
  clear j0 j1 j2 j3 j4 j5 j6
  clear hb4 TO K3 JY3 o6 TW3 TX3
  obtain ⟨⟨j0, j1⟩, ⟨j2, j3⟩, ⟨j4, j5⟩, j6⟩ := (K4.out).see
  go_wp2_with fail
  refine (RG.out w4 b4.out).mono ?_
  rintro e w5 ⟨rfl, hb5⟩
  have b5 := Lib.hid (b4.out.trans (hb5.mono b4.out.size))
  have K5 := Lib.hid (K4.out.kept hb5)
  have I65 := Lib.hid (I6.out.kept hb5)
  clear j0 j1 j2 j3 j4 j5 j6
  clear RG I6
  obtain ⟨⟨j0, j1⟩, ⟨j2, j3⟩, ⟨j4, j5⟩, j6⟩ := (K5.out).see
  go_wp2_with fail
  have RS' := RS.out A6 p6 w5 b5.out I65.out
  refine RS'.mono ?_
  rintro e wm ⟨rfl, m, rfl⟩
  have b6 := Lib.hid (below_drewN' b5.out m)
  have hb6 := hb5.trans ((below_drewN' (Below.refl w5.heap.size w5) m).mono hb5.size)
  obtain ⟨w6, hw6⟩ : ∃ w6, w5.drewN m = w6 := ⟨_, rfl⟩
  rw [hw6] at b6 hb6 ⊢
  have K6 := Lib.hid (K4.out.kept hb6)
  have JY6 := Lib.hid (JY4.out.kept hb6)
  have TW6 := Lib.hid (TW4.out.kept hb6)
  have TX6 := Lib.hid (TX4.out.kept hb6)
  clear j0 j1 j2 j3 j4 j5 j6
  clear RS RS' hb5 hb6 hw6 K4 K5 JY4 TW4 TX4 b5 I65
  obtain ⟨⟨j0, j1⟩, ⟨j2, j3⟩, ⟨j4, j5⟩, j6⟩ := (K6.out).see
  go_wp2_with fail
  refine (OF.out w6 b6.out).mono ?_
  rintro e wp ⟨rfl, hbp⟩
  obtain ⟨w7, hw7, PB, zP, nP⟩ := plan8_box wp (.int .i64 q0) (.int .i64 q1) (.int .i64 q2) (.int .i64 q3) (.int .i64 q4) (.int .i64 q5) (.int .i64 q6) (.int .i64 q7)
  have k7 := Lib.hid (hbp.trans (zP.out.mono hbp.size))
  have b7 := Lib.hid (b6.out.trans (k7.out.mono b6.out.size))
  have K7 := Lib.hid (K6.out.kept k7.out)
  have JY7 := Lib.hid (JY6.out.kept k7.out)
  have TW := Lib.hid (TW6.out.kept k7.out)
  have Tx := Lib.hid (TX6.out.kept k7.out)
  clear j0 j1 j2 j3 j4 j5 j6
  clear OF hbp K6 JY6 TW6 TX6
  go_upto_region 11 with (fail)
  rw [hw7.out]
  obtain ⟨D, hD⟩ : ∃ D, wp.heap.size = D := ⟨_, rfl⟩
  rw [hD] at PB ⊢
  have PB7 := Lib.hid PB.out
  clear PB hD
  have SK := Lib.hid (fun w' (hb : Below w7.heap.size w7 w') => (show w'.cell? ⟨w2.heap.size, 0, none⟩ = some (.slice A1 W.sl c1) ∧ w'.cell? ⟨w2.heap.size, 1, none⟩ = some (.slice A2 W.cl c2) ∧ w'.cell? ⟨w.heap.size, 0, none⟩ = some (.slice W.sa W.sl W.sc) ∧ w'.cell? ⟨D, 0, none⟩ = some (.int .i64 q0) ∧ w'.cell? ⟨D, 1, none⟩ = some (.int .i64 q1) ∧ w'.cell? ⟨D, 2, none⟩ = some (.int .i64 q2) ∧ w'.cell? ⟨D, 3, none⟩ = some (.int .i64 q3) ∧ w'.cell? ⟨D, 4, none⟩ = some (.int .i64 q4) ∧ w'.cell? ⟨D, 5, none⟩ = some (.int .i64 q5) ∧ w'.cell? ⟨D, 6, none⟩ = some (.int .i64 q6) ∧ w'.cell? ⟨D, 7, none⟩ = some (.int .i64 q7) ∧ w'.cell? ⟨w.heap.size, 1, none⟩ = some (.slice W.ca W.cl W.cc) ∧ w'.cell? ⟨w.heap.size, 2, none⟩ = some (.slice x.sa x.sl x.sc) ∧ w'.cell? ⟨w.heap.size, 3, none⟩ = some (.slice x.ca x.cl x.cc) ∧ w'.cell? ⟨w.heap.size, 4, none⟩ = some (.slice G.sa G.sl G.sc) ∧ w'.cell? ⟨w.heap.size, 5, none⟩ = some (.slice G.ca G.cl G.cc) ∧ w'.cell? ⟨w2.heap.size, 2, none⟩ = some (.slice A3 x.sl c3) ∧ w'.cell? ⟨w2.heap.size, 3, none⟩ = some (.slice A4 x.cl c4) from ⟨(JY7.out.kept hb).see.1, (JY7.out.kept hb).see.2.1, (K7.out.kept hb).see.1.1, (PB7.out.kept hb).see.1, (PB7.out.kept hb).see.2.1, (PB7.out.kept hb).see.2.2.1, (PB7.out.kept hb).see.2.2.2.1, (PB7.out.kept hb).see.2.2.2.2.1, (PB7.out.kept hb).see.2.2.2.2.2.1, (PB7.out.kept hb).see.2.2.2.2.2.2.1, (PB7.out.kept hb).see.2.2.2.2.2.2.2, (K7.out.kept hb).see.1.2, (K7.out.kept hb).see.2.1.1, (K7.out.kept hb).see.2.1.2, (K7.out.kept hb).see.2.2.1.1, (K7.out.kept hb).see.2.2.1.2, (JY7.out.kept hb).see.2.2.1, (JY7.out.kept hb).see.2.2.2⟩))
  have t1 := Lib.hid (show Below w7.heap.size w7 w7.drew from (Below.refl _ _).drew)
  refine wp_region_held_drew (S := fun w' => w'.cell? ⟨w2.heap.size, 0, none⟩ = some (.slice A1 W.sl c1) ∧ w'.cell? ⟨w2.heap.size, 1, none⟩ = some (.slice A2 W.cl c2) ∧ w'.cell? ⟨w.heap.size, 0, none⟩ = some (.slice W.sa W.sl W.sc) ∧ w'.cell? ⟨D, 0, none⟩ = some (.int .i64 q0) ∧ w'.cell? ⟨D, 1, none⟩ = some (.int .i64 q1) ∧ w'.cell? ⟨D, 2, none⟩ = some (.int .i64 q2) ∧ w'.cell? ⟨D, 3, none⟩ = some (.int .i64 q3) ∧ w'.cell? ⟨D, 4, none⟩ = some (.int .i64 q4) ∧ w'.cell? ⟨D, 5, none⟩ = some (.int .i64 q5) ∧ w'.cell? ⟨D, 6, none⟩ = some (.int .i64 q6) ∧ w'.cell? ⟨D, 7, none⟩ = some (.int .i64 q7) ∧ w'.cell? ⟨w.heap.size, 1, none⟩ = some (.slice W.ca W.cl W.cc) ∧ w'.cell? ⟨w.heap.size, 2, none⟩ = some (.slice x.sa x.sl x.sc) ∧ w'.cell? ⟨w.heap.size, 3, none⟩ = some (.slice x.ca x.cl x.cc) ∧ w'.cell? ⟨w.heap.size, 4, none⟩ = some (.slice G.sa G.sl G.sc) ∧ w'.cell? ⟨w.heap.size, 5, none⟩ = some (.slice G.ca G.cl G.cc) ∧ w'.cell? ⟨w2.heap.size, 2, none⟩ = some (.slice A3 x.sl c3) ∧ w'.cell? ⟨w2.heap.size, 3, none⟩ = some (.slice A4 x.cl c4)) (by kernel_rfl) (SK.out _ t1.out) (fun hHeld => ?_)
  refine held_take 0 (.int .i64 0) rfl (by kernel_rfl) (by kernel_rfl) (by kernel_rfl) (fun _ _ _ h => h) (by rfl) (by intro w' hS; go_simp) (by assumption) ?_
  try simp only [Act.put, List.setIfInBounds_toArray, List.set_cons_zero, List.set_cons_succ]
  refine held_take 1 (.bool true) rfl (by kernel_rfl) (by kernel_rfl) (by kernel_rfl) (fun _ _ _ h => h) (by rfl) (by intro w' hS; go_simp) (by assumption) ?_
  try simp only [Act.put, List.setIfInBounds_toArray, List.set_cons_zero, List.set_cons_succ]
  refine held_take 2 (.bool true) rfl (by kernel_rfl) (by kernel_rfl) (by kernel_rfl) (fun _ _ _ h => h) (by rfl) (by intro w' hS; go_simp) (by assumption) ?_
  try simp only [Act.put, List.setIfInBounds_toArray, List.set_cons_zero, List.set_cons_succ]
  refine held_take 3 (.pointer (some ⟨w2.heap.size, 0, none⟩)) rfl (by kernel_rfl) (by kernel_rfl) (by kernel_rfl) (fun _ _ _ h => h) (by rfl) (by intro w' hS; go_simp) (by assumption) ?_
  try simp only [Act.put, List.setIfInBounds_toArray, List.set_cons_zero, List.set_cons_succ]
  refine held_take 4 (.agg #[.slice A1 W.sl c1, .slice A2 W.cl c2]) rfl (by kernel_rfl) (by kernel_rfl) (by kernel_rfl) (fun _ _ _ h => h) (by rfl) (by intro w' hS; go_simp) (by assumption) ?_
  try simp only [Act.put, List.setIfInBounds_toArray, List.set_cons_zero, List.set_cons_succ]
  refine held_take 5 (.pointer (some ⟨w.heap.size, 0, none⟩)) rfl (by kernel_rfl) (by kernel_rfl) (by kernel_rfl) (fun _ _ _ h => h) (by rfl) (by intro w' hS; go_simp) (by assumption) ?_
  try simp only [Act.put, List.setIfInBounds_toArray, List.set_cons_zero, List.set_cons_succ]
  refine held_take 6 (.pointer (some ⟨w.heap.size, 0, none⟩)) rfl (by kernel_rfl) (by kernel_rfl) (by kernel_rfl) (fun _ _ _ h => h) (by rfl) (by intro w' hS; go_simp) (by assumption) ?_
  try simp only [Act.put, List.setIfInBounds_toArray, List.set_cons_zero, List.set_cons_succ]
  refine held_take 7 (.slice W.sa W.sl W.sc) rfl (by kernel_rfl) (by kernel_rfl) (by kernel_rfl) (fun _ _ _ h => h) (by rfl) (by intro w' hS; go_simp) (by assumption) ?_
  try simp only [Act.put, List.setIfInBounds_toArray, List.set_cons_zero, List.set_cons_succ]
  refine held_take 8 (.agg #[.int .i64 q0, .int .i64 q1, .int .i64 q2, .int .i64 q3, .int .i64 q4, .int .i64 q5, .int .i64 q6, .int .i64 q7]) rfl (by kernel_rfl) (by kernel_rfl) (by kernel_rfl) (fun _ _ _ h => h) (by rfl) (by intro w' hS; go_simp) (by assumption) ?_
  try simp only [Act.put, List.setIfInBounds_toArray, List.set_cons_zero, List.set_cons_succ]
  refine held_take 9 (.pointer (some ⟨w.heap.size, 0, none⟩)) rfl (by kernel_rfl) (by kernel_rfl) (by kernel_rfl) (fun _ _ _ h => h) (by rfl) (by intro w' hS; go_simp) (by assumption) ?_
  try simp only [Act.put, List.setIfInBounds_toArray, List.set_cons_zero, List.set_cons_succ]
  refine held_take 10 (.agg #[.slice W.sa W.sl W.sc, .slice W.ca W.cl W.cc]) rfl (by kernel_rfl) (by kernel_rfl) (by kernel_rfl) (fun _ _ _ h => h) (by rfl) (by intro w' hS; go_simp) (by assumption) ?_
  try simp only [Act.put, List.setIfInBounds_toArray, List.set_cons_zero, List.set_cons_succ]
  refine held_take 12 (.pointer (some ⟨w.heap.size, 2, none⟩)) rfl (by kernel_rfl) (by kernel_rfl) (by kernel_rfl) (fun _ _ _ h => h) (by rfl) (by intro w' hS; go_simp) (by assumption) ?_
  try simp only [Act.put, List.setIfInBounds_toArray, List.set_cons_zero, List.set_cons_succ]
  refine held_take 13 (.agg #[.slice x.sa x.sl x.sc, .slice x.ca x.cl x.cc]) rfl (by kernel_rfl) (by kernel_rfl) (by kernel_rfl) (fun _ _ _ h => h) (by rfl) (by intro w' hS; go_simp) (by assumption) ?_
  try simp only [Act.put, List.setIfInBounds_toArray, List.set_cons_zero, List.set_cons_succ]
  refine held_take 15 (.pointer (some ⟨w.heap.size, 4, none⟩)) rfl (by kernel_rfl) (by kernel_rfl) (by kernel_rfl) (fun _ _ _ h => h) (by rfl) (by intro w' hS; go_simp) (by assumption) ?_
  try simp only [Act.put, List.setIfInBounds_toArray, List.set_cons_zero, List.set_cons_succ]
  refine held_take 16 (.agg #[.slice G.sa G.sl G.sc, .slice G.ca G.cl G.cc]) rfl (by kernel_rfl) (by kernel_rfl) (by kernel_rfl) (fun _ _ _ h => h) (by rfl) (by intro w' hS; go_simp) (by assumption) ?_
  try simp only [Act.put, List.setIfInBounds_toArray, List.set_cons_zero, List.set_cons_succ]
  refine held_call 11 (by kernel_rfl) rfl (by rfl) (fun K hK => ?_)
  go_simp
  refine (CW.out w7.drew (b7.out.trans (t1.out.mono b7.out.size))).mono ?_
  rintro e wq1 ⟨B1, p1, rfl, oc, hb⟩
  have bq1 := Lib.hid (t1.out.trans ((hb).mono t1.out.size))
  have i1 := Lib.hid (row_ints oc (show W.cl ≤ 9223372036854775807 by omega) hfW.out)
  have kk1 := Lib.hid hb
  clear oc
  go_wp2_with fail
  refine hK.out _ _ (SK.out _ bq1.out) (fun hHeld => ?_)
  try simp only [Act.put, List.setIfInBounds_toArray, List.set_cons_zero, List.set_cons_succ]
  refine held_call 14 (by kernel_rfl) rfl (by rfl) (fun K hK => ?_)
  go_simp
  refine (CX.out wq1 (b7.out.trans (bq1.out.mono b7.out.size))).mono ?_
  rintro e wq2 ⟨B2, p2, rfl, oc, hb⟩
  have bq2 := Lib.hid (bq1.out.trans ((hb).mono bq1.out.size))
  have i2 := Lib.hid (row_ints oc (show x.cl ≤ 9223372036854775807 by omega) hfX.out)
  have kk2 := Lib.hid hb
  clear oc
  go_wp2_with fail
  refine hK.out _ _ (SK.out _ bq2.out) (fun hHeld => ?_)
  try simp only [Act.put, List.setIfInBounds_toArray, List.set_cons_zero, List.set_cons_succ]
  refine held_call 17 (by kernel_rfl) rfl (by rfl) (fun K hK => ?_)
  go_simp
  refine (CG.out wq2 (b7.out.trans (bq2.out.mono b7.out.size))).mono ?_
  rintro e wq3 ⟨B3, p3, rfl, oc, hb⟩
  have bq3 := Lib.hid (bq2.out.trans ((hb).mono bq2.out.size))
  have i3 := Lib.hid (row_ints oc (show G.cl ≤ 9223372036854775807 by omega) hfG.out)
  have kk3 := Lib.hid hb
  clear oc
  go_wp2_with fail
  refine hK.out _ _ (SK.out _ bq3.out) (fun hHeld => ?_)
  try simp only [Act.put, List.setIfInBounds_toArray, List.set_cons_zero, List.set_cons_succ]
  refine held_call 18 (by kernel_rfl) rfl (by rfl) (fun K hK => ?_)
  go_simp
  refine (R1.out B1 p1 B2 p2 B3 p3 wq3 ((i1.out.kept kk2.out).kept kk3.out) (i2.out.kept kk3.out) i3.out).mono ?_
  rintro e wq4 ⟨B4, p4, rfl, i4, hb⟩
  have bq4 := Lib.hid (bq3.out.trans ((hb).mono bq3.out.size))
  replace i4 := Lib.hid i4
  go_wp2_with fail
  refine hK.out _ _ (SK.out _ bq4.out) (fun hHeld => ?_)
  try simp only [Act.put, List.setIfInBounds_toArray, List.set_cons_zero, List.set_cons_succ]
  refine held_call 19 (by kernel_rfl) rfl (by rfl) (fun K hK => ?_)
  go_simp
  refine (lawsame_any ⟨A1, W.sl, c1, W.ss, A2, W.cl, c2, z1⟩ W.sa W.sl W.sc B4 p4 wq4 (TW.out.kept bq4.out) (HW.out wq4 (b7.out.trans (bq4.out.mono b7.out.size))) i4.out).mono ?_
  rintro e wq5 ⟨rfl, hb⟩
  have bq5 := Lib.hid (bq4.out.trans ((hb).mono bq4.out.size))
  go_wp2_with fail
  refine hK.out _ _ (SK.out _ bq5.out) (fun hHeld => ?_)
  try simp only [Act.put, List.setIfInBounds_toArray, List.set_cons_zero, List.set_cons_succ]
  refine held_take 20 (.bool true) rfl (by kernel_rfl) (by kernel_rfl) (by kernel_rfl) (fun _ _ _ h => h) (by rfl) (by intro w' hS; go_simp) (by assumption) ?_
  try simp only [Act.put, List.setIfInBounds_toArray, List.set_cons_zero, List.set_cons_succ]
  refine held_take 21 (.bool true) rfl (by kernel_rfl) (by kernel_rfl) (by kernel_rfl) (fun _ _ _ h => h) (by rfl) (by intro w' hS; go_simp) (by assumption) ?_
  try simp only [Act.put, List.setIfInBounds_toArray, List.set_cons_zero, List.set_cons_succ]
  refine held_take 22 (.pointer (some ⟨w2.heap.size, 2, none⟩)) rfl (by kernel_rfl) (by kernel_rfl) (by kernel_rfl) (fun _ _ _ h => h) (by rfl) (by intro w' hS; go_simp) (by assumption) ?_
  try simp only [Act.put, List.setIfInBounds_toArray, List.set_cons_zero, List.set_cons_succ]
  refine held_take 23 (.agg #[.slice A3 x.sl c3, .slice A4 x.cl c4]) rfl (by kernel_rfl) (by kernel_rfl) (by kernel_rfl) (fun _ _ _ h => h) (by rfl) (by intro w' hS; go_simp) (by assumption) ?_
  try simp only [Act.put, List.setIfInBounds_toArray, List.set_cons_zero, List.set_cons_succ]
  refine held_take 24 (.pointer (some ⟨w.heap.size, 2, none⟩)) rfl (by kernel_rfl) (by kernel_rfl) (by kernel_rfl) (fun _ _ _ h => h) (by rfl) (by intro w' hS; go_simp) (by assumption) ?_
  try simp only [Act.put, List.setIfInBounds_toArray, List.set_cons_zero, List.set_cons_succ]
  refine held_take 25 (.pointer (some ⟨w.heap.size, 2, none⟩)) rfl (by kernel_rfl) (by kernel_rfl) (by kernel_rfl) (fun _ _ _ h => h) (by rfl) (by intro w' hS; go_simp) (by assumption) ?_
  try simp only [Act.put, List.setIfInBounds_toArray, List.set_cons_zero, List.set_cons_succ]
  refine held_take 26 (.slice x.sa x.sl x.sc) rfl (by kernel_rfl) (by kernel_rfl) (by kernel_rfl) (fun _ _ _ h => h) (by rfl) (by intro w' hS; go_simp) (by assumption) ?_
  try simp only [Act.put, List.setIfInBounds_toArray, List.set_cons_zero, List.set_cons_succ]
  refine held_take 27 (.agg #[.int .i64 q0, .int .i64 q1, .int .i64 q2, .int .i64 q3, .int .i64 q4, .int .i64 q5, .int .i64 q6, .int .i64 q7]) rfl (by kernel_rfl) (by kernel_rfl) (by kernel_rfl) (fun _ _ _ h => h) (by rfl) (by intro w' hS; go_simp) (by assumption) ?_
  try simp only [Act.put, List.setIfInBounds_toArray, List.set_cons_zero, List.set_cons_succ]
  refine held_take 28 (.pointer (some ⟨w.heap.size, 0, none⟩)) rfl (by kernel_rfl) (by kernel_rfl) (by kernel_rfl) (fun _ _ _ h => h) (by rfl) (by intro w' hS; go_simp) (by assumption) ?_
  try simp only [Act.put, List.setIfInBounds_toArray, List.set_cons_zero, List.set_cons_succ]
  refine held_take 29 (.agg #[.slice W.sa W.sl W.sc, .slice W.ca W.cl W.cc]) rfl (by kernel_rfl) (by kernel_rfl) (by kernel_rfl) (fun _ _ _ h => h) (by rfl) (by intro w' hS; go_simp) (by assumption) ?_
  try simp only [Act.put, List.setIfInBounds_toArray, List.set_cons_zero, List.set_cons_succ]
  refine held_take 31 (.pointer (some ⟨w.heap.size, 2, none⟩)) rfl (by kernel_rfl) (by kernel_rfl) (by kernel_rfl) (fun _ _ _ h => h) (by rfl) (by intro w' hS; go_simp) (by assumption) ?_
  try simp only [Act.put, List.setIfInBounds_toArray, List.set_cons_zero, List.set_cons_succ]
  refine held_take 32 (.agg #[.slice x.sa x.sl x.sc, .slice x.ca x.cl x.cc]) rfl (by kernel_rfl) (by kernel_rfl) (by kernel_rfl) (fun _ _ _ h => h) (by rfl) (by intro w' hS; go_simp) (by assumption) ?_
  try simp only [Act.put, List.setIfInBounds_toArray, List.set_cons_zero, List.set_cons_succ]
  refine held_take 34 (.pointer (some ⟨w.heap.size, 4, none⟩)) rfl (by kernel_rfl) (by kernel_rfl) (by kernel_rfl) (fun _ _ _ h => h) (by rfl) (by intro w' hS; go_simp) (by assumption) ?_
  try simp only [Act.put, List.setIfInBounds_toArray, List.set_cons_zero, List.set_cons_succ]
  refine held_take 35 (.agg #[.slice G.sa G.sl G.sc, .slice G.ca G.cl G.cc]) rfl (by kernel_rfl) (by kernel_rfl) (by kernel_rfl) (fun _ _ _ h => h) (by rfl) (by intro w' hS; go_simp) (by assumption) ?_
  try simp only [Act.put, List.setIfInBounds_toArray, List.set_cons_zero, List.set_cons_succ]
  refine held_call 30 (by kernel_rfl) rfl (by rfl) (fun K hK => ?_)
  go_simp
  refine (CW.out wq5 (b7.out.trans (bq5.out.mono b7.out.size))).mono ?_
  rintro e wq6 ⟨B11, p11, rfl, oc, hb⟩
  have bq6 := Lib.hid (bq5.out.trans ((hb).mono bq5.out.size))
  have i11 := Lib.hid (row_ints oc (show W.cl ≤ 9223372036854775807 by omega) hfW.out)
  have kk11 := Lib.hid hb
  clear oc
  go_wp2_with fail
  refine hK.out _ _ (SK.out _ bq6.out) (fun hHeld => ?_)
  try simp only [Act.put, List.setIfInBounds_toArray, List.set_cons_zero, List.set_cons_succ]
  refine held_call 33 (by kernel_rfl) rfl (by rfl) (fun K hK => ?_)
  go_simp
  refine (CX.out wq6 (b7.out.trans (bq6.out.mono b7.out.size))).mono ?_
  rintro e wq7 ⟨B12, p12, rfl, oc, hb⟩
  have bq7 := Lib.hid (bq6.out.trans ((hb).mono bq6.out.size))
  have i12 := Lib.hid (row_ints oc (show x.cl ≤ 9223372036854775807 by omega) hfX.out)
  have kk12 := Lib.hid hb
  clear oc
  go_wp2_with fail
  refine hK.out _ _ (SK.out _ bq7.out) (fun hHeld => ?_)
  try simp only [Act.put, List.setIfInBounds_toArray, List.set_cons_zero, List.set_cons_succ]
  refine held_call 36 (by kernel_rfl) rfl (by rfl) (fun K hK => ?_)
  go_simp
  refine (CG.out wq7 (b7.out.trans (bq7.out.mono b7.out.size))).mono ?_
  rintro e wq8 ⟨B13, p13, rfl, oc, hb⟩
  have bq8 := Lib.hid (bq7.out.trans ((hb).mono bq7.out.size))
  have i13 := Lib.hid (row_ints oc (show G.cl ≤ 9223372036854775807 by omega) hfG.out)
  have kk13 := Lib.hid hb
  clear oc
  go_wp2_with fail
  refine hK.out _ _ (SK.out _ bq8.out) (fun hHeld => ?_)
  try simp only [Act.put, List.setIfInBounds_toArray, List.set_cons_zero, List.set_cons_succ]
  refine held_call 37 (by kernel_rfl) rfl (by rfl) (fun K hK => ?_)
  go_simp
  refine (R2.out B11 p11 B12 p12 B13 p13 wq8 ((i11.out.kept kk12.out).kept kk13.out) (i12.out.kept kk13.out) i13.out).mono ?_
  rintro e wq9 ⟨B14, p14, rfl, i14, hb⟩
  have bq9 := Lib.hid (bq8.out.trans ((hb).mono bq8.out.size))
  replace i14 := Lib.hid i14
  go_wp2_with fail
  refine hK.out _ _ (SK.out _ bq9.out) (fun hHeld => ?_)
  try simp only [Act.put, List.setIfInBounds_toArray, List.set_cons_zero, List.set_cons_succ]
  refine held_call 38 (by kernel_rfl) rfl (by rfl) (fun K hK => ?_)
  go_simp
  refine (lawsame_any ⟨A3, x.sl, c3, x.ss, A4, x.cl, c4, z2⟩ x.sa x.sl x.sc B14 p14 wq9 (Tx.out.kept bq9.out) (Hx.out wq9 (b7.out.trans (bq9.out.mono b7.out.size))) i14.out).mono ?_
  rintro e wq10 ⟨rfl, hb⟩
  have bq10 := Lib.hid (bq9.out.trans ((hb).mono bq9.out.size))
  go_wp2_with fail
  refine hK.out _ _ (SK.out _ bq10.out) (fun hHeld => ?_)
  try simp only [Act.put, List.setIfInBounds_toArray, List.set_cons_zero, List.set_cons_succ]
  refine held_take 39 (.bool true) rfl (by kernel_rfl) (by kernel_rfl) (by kernel_rfl) (fun _ _ _ h => h) (by rfl) (by intro w' hS; go_simp) (by assumption) ?_
  try simp only [Act.put, List.setIfInBounds_toArray, List.set_cons_zero, List.set_cons_succ]
  refine held_take 40 (.bool true) rfl (by kernel_rfl) (by kernel_rfl) (by kernel_rfl) (fun _ _ _ h => h) (by rfl) (by intro w' hS; go_simp) (by assumption) ?_
  try simp only [Act.put, List.setIfInBounds_toArray, List.set_cons_zero, List.set_cons_succ]
  refine held_call 41 (by kernel_rfl) rfl (by rfl) (fun K hK => ?_)
  go_simp
  refine (awake07_any wq10).mono ?_
  rintro e wq11 ⟨rfl, hb⟩
  have bq11 := Lib.hid (bq10.out.trans ((hb).mono bq10.out.size))
  go_wp2_with fail
  refine hK.out _ _ (SK.out _ bq11.out) (fun hHeld => ?_)
  try simp only [Act.put, List.setIfInBounds_toArray, List.set_cons_zero, List.set_cons_succ]
  refine held_take 42 (.bool true) rfl (by kernel_rfl) (by kernel_rfl) (by kernel_rfl) (fun _ _ _ h => h) (by rfl) (by intro w' hS; go_simp) (by assumption) ?_
  try simp only [Act.put, List.setIfInBounds_toArray, List.set_cons_zero, List.set_cons_succ]
  refine held_take 43 (.bool true) rfl (by kernel_rfl) (by kernel_rfl) (by kernel_rfl) (fun _ _ _ h => h) (by rfl) (by intro w' hS; go_simp) (by assumption) ?_
  try simp only [Act.put, List.setIfInBounds_toArray, List.set_cons_zero, List.set_cons_succ]
  refine wpAnyH_done (by kernel_rfl) ?_ _
  go_wp2_with fail
  go_ret
  exact ⟨rfl, b7.out.trans (bq11.out.mono b7.out.size)⟩

theorem convBacks_walk (W x G : TV) (s : Int) (w : World) (hA : (W.At w ∧ W.CapS) ∧ (x.At w ∧ x.CapS) ∧ G.At w ∧ -9223372036854775808 ≤ s ∧ s ≤ 9223372036854775807) :
    Calls Try.prog 5 #[.agg #[.slice W.sa W.sl W.sc, .slice W.ca W.cl W.cc, .slice x.sa x.sl x.sc, .slice x.ca x.cl x.cc, .slice G.sa G.sl G.sc, .slice G.ca G.cl G.cc, .int .i64 s]] w fun e w' => e = .returned (.bool true) ∧ Below w.heap.size w w' := by
  obtain ⟨hW, hx, hG, hs1, hs2⟩ := hA
  cases hs : smallC W x G
  · exact convBacks_small W x G s w hs
  by_cases hE : tensE W x s = 0
  · cases hg : gOk G (outS W.ss x.ss s)
    · exact convBacks_bad W x G s w hW hx hG hs1 hs2 hs hE hg
    · exact convBacks_ok W x G s w hW hx hG hs1 hs2 hs hE hg
  · exact convBacks_no W x G s w hW hx hG hs1 hs2 hs hE
end Go.Proofs.Ytapelgjnnccfoaa

