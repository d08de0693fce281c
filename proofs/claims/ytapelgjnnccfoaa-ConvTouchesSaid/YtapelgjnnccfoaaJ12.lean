import Derived.Test.YtapelgjnnccfoaaJ04
import Derived.Test.YtapelgjnnccfoaaJ11
/-
  The walk of the statement ConvShapes.
-/
namespace Go.Proofs.Ytapelgjnnccfoaa
open Go.RowKit
set_option linter.unusedVariables false
set_option linter.unusedSimpArgs false

theorem outS_len {ws xs : List Int} {s : Int} (h : toldE ws xs s = 0) : (outS ws xs s).length = xs.length := outS_length (told_parts h).1
theorem outS_fit {ws xs : List Int} {s : Int} (h : toldE ws xs s = 0) : Fits (outS ws xs s) := outS_fits (told_parts h).1
set_option maxRecDepth 100000 in
set_option maxHeartbeats 4000000 in
theorem convShapes_walk (W x : TV) (s : Int) (w : World) (hW : W.At w ∧ W.CapS) (hx : x.At w ∧ x.CapS) (hs1 : -9223372036854775808 ≤ s) (hs2 : s ≤ 9223372036854775807) :
    Calls Try.prog 3 #[.slice W.sa W.sl W.sc, .slice x.sa x.sl x.sc, .int .i64 s] w fun e w' => e = .returned (.bool true) ∧ Below w.heap.size w w' := by
  have FE := fun w1 => few_any W.sa W.sl W.sc x.sa x.sl x.sc w1
  have SH := fun w1 (hb : Below w.heap.size w w1) => convshape_any W x s w1 (hW.1.kept hb) (hx.1.kept hb) hW.2 hx.2 hs1 hs2
  have TO := fun w1 (hb : Below w.heap.size w w1) => told_any W x s w1 (hW.1.kept hb) (hx.1.kept hb)
  have hk : x.ss.length ≤ 9223372036854775807 := by have := hx.1.1.1; have := hx.1.2.2.1; omega
  have t0 := Lib.hid (Below.refl w.heap.size w)
  cases cf : fewC W.sl x.sl
  · rw [cf] at FE
    replace FE := Lib.hid FE
    clear SH TO hW hx hk cf
    go_enter Try.func3, Try.ntmps3
    go_wp2_with fail
    refine (FE.out w).mono ?_
    rintro e w1 ⟨rfl, rfl⟩
    go_wp2_with fail
    refine (awake07_any _).mono ?_
    rintro e w2 ⟨rfl, hb⟩
    go_wp2_with fail
    go_ret
    exact ⟨rfl, hb⟩
  rw [cf] at FE
  replace FE := Lib.hid FE
  clear hW hx cf
  by_cases h0 : toldE W.ss x.ss s = 0
  case neg =>
    replace SH := Lib.hid (fun w1 hb => (SH w1 hb).mono fun e w' h => h.2 h0)
    replace TO := Lib.hid (fun w1 hb => (TO w1 hb).mono fun e w' h => h.2 h0)
    obtain ⟨v, hv⟩ : ∃ v, toldE W.ss x.ss s = v := ⟨_, rfl⟩
    rw [hv] at SH TO
    clear hv h0
    go_enter Try.func3, Try.ntmps3
    go_wp2_with fail
    refine (FE.out w).mono ?_
    rintro e w1 ⟨rfl, rfl⟩
    go_wp2_with fail
    refine (SH.out w t0.out).mono ?_
    rintro e w1 ⟨rfl, hb⟩
    have b1 := Lib.hid (t0.out.trans (hb.mono t0.out.size))
    clear hb SH
    go_wp2_with fail
    refine (TO.out w1 b1.out).mono ?_
    rintro e w2 ⟨rfl, hb⟩
    have b2 := Lib.hid (b1.out.trans (hb.mono b1.out.size))
    clear hb TO
    go_wp2_with fail
    have SM := same_any none 0 0 [] none 0 0 [] w2 (IntsAt.nil _ _) (IntsAt.nil _ _)
    rw [sameL_self] at SM
    refine SM.mono ?_
    rintro e w3 ⟨rfl, m, rfl⟩
    have b3 := Lib.hid (below_drewN' b2.out m)
    go_wp2_with fail
    refine (awake07_any _).mono ?_
    rintro e w4 ⟨rfl, hb⟩
    go_wp2_with fail
    go_ret
    exact ⟨rfl, b3.out.trans (hb.mono b3.out.size)⟩
  replace SH := Lib.hid (fun w1 hb => (SH w1 hb).mono fun e w' h => h.1 h0)
  replace TO := Lib.hid (fun w1 hb => (TO w1 hb).mono fun e w' h => h.1 h0)
  have hl := outS_len h0
  have hf := outS_fit h0
  obtain ⟨zs, hz⟩ : ∃ zs, outS W.ss x.ss s = zs := ⟨_, rfl⟩
  obtain ⟨k, hkk⟩ : ∃ k, x.ss.length = k := ⟨_, rfl⟩
  rw [hz, hkk] at SH TO hl
  rw [hz] at hf
  rw [hkk] at hk
  replace hf := Lib.hid hf
  clear hz hkk h0
  go_enter Try.func3, Try.ntmps3
  go_wp2_with fail
  refine (FE.out w).mono ?_
  rintro e w1 ⟨rfl, rfl⟩
  go_wp2_with fail
  refine (SH.out w t0.out).mono ?_
  rintro e w1 ⟨A1, p1, rfl, o1, hb⟩
  have i1 := Lib.hid (row_ints o1 hk hf.out)
  have b1 := Lib.hid (t0.out.trans (hb.mono t0.out.size))
  clear hb SH o1
  go_wp2_with fail
  refine (TO.out w1 b1.out).mono ?_
  rintro e w2 ⟨A2, p2, rfl, o2, hb⟩
  have i1' := Lib.hid (i1.out.kept hb)
  have i2 := Lib.hid (row_ints o2 hk hf.out)
  have b2 := Lib.hid (b1.out.trans (hb.mono b1.out.size))
  clear hb TO o2
  go_wp2_with fail
  have SM := same_any A1 k p1 zs A2 k p2 zs w2 i1'.out i2.out
  rw [sameL_self] at SM
  refine SM.mono ?_
  rintro e w3 ⟨rfl, m, rfl⟩
  have b3 := Lib.hid (below_drewN' b2.out m)
  clear SM
  go_wp2_with fail
  refine (awake07_any _).mono ?_
  rintro e w4 ⟨rfl, hb⟩
  go_wp2_with fail
  go_ret
  exact ⟨rfl, b3.out.trans (hb.mono b3.out.size)⟩
end Go.Proofs.Ytapelgjnnccfoaa

