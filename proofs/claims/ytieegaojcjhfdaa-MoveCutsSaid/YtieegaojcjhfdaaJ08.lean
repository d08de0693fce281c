import Derived.Test.YtieegaojcjhfdaaJ00
import Derived.Test.YtieegaojcjhfdaaJ03
import Derived.Test.YtieegaojcjhfdaaJ06
import Derived.Deep.DeepCutAuto
import Derived.Deep.CutBlock
/-
  The contract of the reference of layer 9: Spread.
-/
namespace Go.Proofs.Ytieegaojcjhfdaa
open Go.RowKit
set_option linter.unusedVariables false
set_option linter.unusedSimpArgs false

/-- How many of the first k positions lie in the part. -/
def midK (f t k : Nat) : Nat := min (max k f) t - f
theorem midK_in {f t k : Nat} (h : f ≤ k ∧ k < t) : midK f t k = k - f := by unfold midK; omega
theorem midK_zero (f t : Nat) : midK f t 0 = 0 := by unfold midK; omega
theorem midK_all {f t n : Nat} (h : f ≤ t) (h2 : t ≤ n) : midK f t n = t - f := by unfold midK; omega
theorem midK_step {f t k b : Nat} (X : Nat) (h : f < t) : X + midK f t k * b + (if f ≤ k ∧ k < t then b else 0) = X + midK f t (k + 1) * b := by
  by_cases c : f ≤ k ∧ k < t
  · rw [if_pos c, show midK f t (k + 1) = midK f t k + 1 by unfold midK; omega, Nat.succ_mul]; omega
  · rw [if_neg c, show midK f t (k + 1) = midK f t k by unfold midK; omega]; omega
theorem block_lt {k b P m : Nat} (hb : b < P) (h : k < m) : k * P + b < m * P := by have := mul_room (n := P) h; omega
theorem block_le {k b P m : Nat} (h : m ≤ k) : m * P ≤ k * P + b := by have := Nat.mul_le_mul_right P h; omega
theorem spread_cell {gs : List Int} {f t n P M a k b : Nat} (ha : a < M) (hk : k < n) (hb : b < P) (hft : f < t) (htn : t ≤ n) (hg : gs.length = M * ((t - f) * P)) :
    (spreadP gs (f * P) ((t - f) * P) ((n - t) * P) M).getD (a * (n * P) + k * P + b) 0 = if f ≤ k ∧ k < t then gs.getD (a * ((t - f) * P) + (k - f) * P + b) 0 else 0 := by
  have e : f * P + (t - f) * P + (n - t) * P = n * P := by rw [← Nat.add_mul, ← Nat.add_mul, show f + (t - f) + (n - t) = n by omega]
  have e2 : f * P + (t - f) * P = t * P := by rw [← Nat.add_mul, show f + (t - f) = t by omega]
  have h := spreadP_get (g := gs) (lo := f * P) (wd := (t - f) * P) (hi := (n - t) * P) M a (k * P + b) ha (by rw [e]; exact block_lt hb hk) (by omega)
  rw [e, e2, ← Nat.add_assoc] at h
  rw [h]
  by_cases c1 : k < f
  · rw [if_pos (block_lt hb c1), if_neg (by omega)]
  · rw [if_neg (by have := block_le (b := b) (P := P) (show f ≤ k by omega); omega)]
    by_cases c2 : k < t
    · rw [if_pos (block_lt hb c2), if_pos ⟨by omega, c2⟩]
      congr 1
      have e3 : k * P = f * P + (k - f) * P := by rw [← Nat.add_mul, show f + (k - f) = k by omega]
      omega
    · rw [if_neg (by have := block_le (b := b) (P := P) (show t ≤ k by omega); omega), if_neg (by omega)]

set_option maxRecDepth 100000 in
set_option maxHeartbeats 8000000 in
theorem spread_any (sa : Option Addr) (sl sc : Nat) (ss : List Int) (ga : Option Addr) (gl gc : Nat) (gs : List Int) (k0 f t n P M : Nat) (w : World) (h : IntsAt w sa sl ss) (hcap : sl ≤ sc) (hcm : sc ≤ 9223372036854775807)
    (hg : IntsAt w ga gl gs) (hr : rightS ss = true) (hN : NumT ss k0 n P M) (hft : f < t) (htn : t ≤ n) (hgl : gl = M * ((t - f) * P)) (hm : M * (n * P) ≤ 1000) :
    Calls Try.prog 19 #[.slice sa sl sc, .slice ga gl gc, .int .i64 k0, .int .i64 f, .int .i64 t] w
      fun e w' => ∃ A cap, e = .returned (.slice A (M * (n * P)) cap) ∧ IntsAt w' A (M * (n * P)) (spreadP gs (f * P) ((t - f) * P) ((n - t) * P) M) ∧ Below w.heap.size w w' := by
  have hsl := h.1
  have hk : k0 < sl := by have := hN.len; omega
  have hgs : gs.length = M * ((t - f) * P) := by rw [hg.1]; exact hgl
  have PA := parts_any sa sl sc ss k0 w h hk hcap hcm hr
  rw [hN.ME, hN.PE] at PA
  have PA' := Lib.hid PA
  obtain ⟨sb, so, hsa, hsc⟩ := ints_cell h (by omega)
  have hcs := hsc k0 hk
  rw [hN.xE] at hcs
  have HX := Lib.hid (fun w1 (hb : Below w.heap.size w w1) => cell_later hb hcs)
  have hgl0 : 0 < gl := by
    rw [hgl]
    exact Nat.mul_pos hN.M1 (Nat.mul_pos (by omega) hN.P1)
  obtain ⟨gb, go, hga, hgc⟩ := ints_cell hg hgl0
  have HG := Lib.hid (fun (w1 : World) (j : Nat) (hj : j < gl) (hb : Below w.heap.size w w1) => cell_later hb (hgc j hj))
  have HFL := Lib.hid (parts_cells (x := (ss, [])) (fr := f) (tt := t) hN (by omega) htn (g := gs) hgs)
  have HV := Lib.hid (fun a k b (ha : a < M) (hk : k < n) (hb : b < P) => spread_cell (gs := gs) (f := f) (t := t) (n := n) (P := P) (M := M) ha hk hb hft htn hgs)
  have HM6 := Lib.hid hm
  have hnP : n * P ≤ 1000 := Nat.le_trans (Nat.le_mul_of_pos_left _ hN.M1) hm
  have hn6 : n ≤ 1000 := Nat.le_trans (Nat.le_mul_of_pos_right _ hN.P1) hnP
  have hP6 : P ≤ 1000 := Nat.le_trans (Nat.le_mul_of_pos_left _ hN.x1) hnP
  have hM6 : M ≤ 1000 := Nat.le_trans (Nat.le_mul_of_pos_right _ (Nat.mul_pos hN.x1 hN.P1)) hm
  have HNB := Lib.hid (fun a k b (ha : a < M) (hk : k < n) (hb : b < P) => (by
    have h1 := block_lt hb hk
    have h2 := mul_room (n := n * P) ha
    omega : a * (n * P) + k * P + b < M * (n * P)))
  have HAB := Lib.hid (fun a k b (ha : a < M) (h1 : f ≤ k) (h2 : k < t) (hb : b < P) => (by
    have h1 := block_lt (P := P) (b := b) (k := k - f) (m := t - f) hb (by omega)
    have h2 := mul_room (n := (t - f) * P) ha
    rw [hgl]
    omega : a * ((t - f) * P) + (k - f) * P + b < gl))
  have HGL : Hid (gl ≤ 1000) := Lib.hid (by
    rw [hgl]
    have h1 : (t - f) * P ≤ n * P := Nat.mul_le_mul_right _ (by omega)
    exact Nat.le_trans (Nat.mul_le_mul_left M h1) hm)
  have HSF := Lib.hid (spreadP_fits hg.2.2.1 (f * P) ((t - f) * P) ((n - t) * P) M)
  have hM1 := hN.M1
  have hnP1 := Lib.hid (Nat.mul_pos hN.x1 hN.P1)
  obtain ⟨i0, hi, hz0, hz1, hz2⟩ := info_parts i64Info
  subst hsa hga
  have hk' : (k0 : Int) < (sl : Int) := by omega
  have hft2 := hft
  clear PA h hg hgs hcs hsc hgc hr hN hsl hgl hgl0 hm hnP
  go_enter Try.func19, Try.ntmps19
  go_wp2_with fail
  refine PA'.out.mono ?_
  rintro e w1 ⟨rfl, nq, rfl⟩
  obtain ⟨W, hW⟩ : ∃ W, w.drewN nq = W := ⟨_, rfl⟩
  have bW := Lib.hid (show Below w.heap.size w W by rw [← hW]; exact below_drewN' (Below.refl _ _) _)
  rw [hW]
  clear hW
  go_wp2_with fail
  go_loopw [13, 14, 15] (fun tv av iv wr => ∃ a N A : Nat, a ≤ M ∧ iv = .int .i64 a ∧ av = .int .i64 A ∧ Hid (N = a * (n * P)) ∧ Hid (A = a * ((t - f) * P)) ∧ Hid (wr.ownsRow W.heap.size 2 1 tv N (((spreadP gs (f * P) ((t - f) * P) ((n - t) * P) M).take N).map (Value.int .i64))) ∧ Hid (Below W.heap.size W wr)) (fun _ _ iv _ => M - (intOf iv).toNat)
  case atStart => exact ⟨0, 0, 0, Nat.zero_le _, rfl, rfl, Lib.hid (by rw [Nat.zero_mul]), Lib.hid (by rw [Nat.zero_mul]), Lib.hid (by rw [List.take_zero]; exact World.ownsRow_nil _ _ _ _), Lib.hid (Below.refl _ _)⟩
  case round =>
    obtain ⟨a, N, A, ha, rfl, rfl, hNe, hAe, hrow, hbr⟩ := hrel
    by_cases hlt : a < M
    · have hS0 := Lib.hid (show N = a * (n * P) + 0 * P by rw [hNe.out, Nat.zero_mul, Nat.add_zero])
      have hA0 := Lib.hid (show A = a * ((t - f) * P) + midK f t 0 * P by rw [hAe.out, midK_zero, Nat.zero_mul, Nat.add_zero])
      go_wp2_with fail
      go_loopw [13, 14, 16] (fun tv av kv wr2 => ∃ k N A : Nat, k ≤ n ∧ kv = .int .i64 k ∧ av = .int .i64 A ∧ Hid (N = a * (n * P) + k * P) ∧ Hid (A = a * ((t - f) * P) + midK f t k * P) ∧ Hid (wr2.ownsRow W.heap.size 2 1 tv N (((spreadP gs (f * P) ((t - f) * P) ((n - t) * P) M).take N).map (Value.int .i64))) ∧ Hid (Below W.heap.size W wr2)) (fun _ _ kv _ => n - (intOf kv).toNat)
      case atStart => exact ⟨0, N, A, by omega, rfl, rfl, hS0, hA0, hrow, hbr⟩
      case round =>
        obtain ⟨k, N2, A2, hk, rfl, rfl, hN2, hA2, hrow2, hbr2⟩ := hrel
        have cx := HX.out wr (bW.out.trans (hbr2.out.mono bW.out.size))
        by_cases hlt2 : k < n
        · have hS3 := Lib.hid (show N2 = a * (n * P) + k * P + 0 by rw [hN2.out, Nat.add_zero])
          have hA3 := Lib.hid (show A2 = a * ((t - f) * P) + midK f t k * P + (if f ≤ k ∧ k < t then 0 else 0) by rw [hA2.out]; split <;> rfl)
          go_wp2_with fail
          clear cx
          go_loopw [13, 14, 17] (fun tv av bv wr3 => ∃ b N A : Nat, b ≤ P ∧ bv = .int .i64 b ∧ av = .int .i64 A ∧ Hid (N = a * (n * P) + k * P + b) ∧ Hid (A = a * ((t - f) * P) + midK f t k * P + (if f ≤ k ∧ k < t then b else 0)) ∧ Hid (wr3.ownsRow W.heap.size 2 1 tv N (((spreadP gs (f * P) ((t - f) * P) ((n - t) * P) M).take N).map (Value.int .i64))) ∧ Hid (Below W.heap.size W wr3)) (fun _ _ bv _ => P - (intOf bv).toNat)
          case atStart => exact ⟨0, N2, A2, Nat.zero_le _, rfl, rfl, hS3, hA3, hrow2, hbr2⟩
          case round =>
            obtain ⟨b, N3, A3, hb, rfl, rfl, hN3, hA3, hrow3, hbr3⟩ := hrel
            by_cases hlt3 : b < P
            · have bw3 := bW.out.trans (hbr3.out.mono bW.out.size)
              have hNl : N3 < (spreadP gs (f * P) ((t - f) * P) ((n - t) * P) M).length := by rw [HFL.out, hN3.out]; exact HNB.out a k b hlt hlt2 hlt3
              have hst : (spreadP gs (f * P) ((t - f) * P) ((n - t) * P) M).take (N3 + 1) = (spreadP gs (f * P) ((t - f) * P) ((n - t) * P) M).take N3 ++ [(spreadP gs (f * P) ((t - f) * P) ((n - t) * P) M).getD N3 0] := by
                rw [List.take_add_one]
                simp [List.getD, List.getElem?_eq_getElem hNl]
              have hval := HV.out a k b hlt hlt2 hlt3
              rw [← hN3.out] at hval
              rw [hval] at hst
              have hmw : N3 ≤ 1000 := by have := HFL.out; have := HM6.out; omega
              obtain ⟨L0, hL0⟩ : ∃ L, ((spreadP gs (f * P) ((t - f) * P) ((n - t) * P) M).take N3).map (Value.int .i64) = L := ⟨_, rfl⟩
              rw [hL0] at hrow3
              have HL0 := Lib.hid hL0
              by_cases hin : f ≤ k ∧ k < t
              · rw [if_pos hin] at hval hst
                have hA3' := hA3.out
                rw [if_pos hin, midK_in hin] at hA3'
                rw [← hA3'] at hst
                have hAl : A3 < gl := by rw [hA3']; exact HAB.out a k b hlt hin.1 hin.2 hlt3
                obtain ⟨y, hy⟩ : ∃ y, gs.getD A3 0 = y := ⟨_, rfl⟩
                rw [hy] at hst
                have HST := Lib.hid hst
                have cy := HG.out wr A3 hAl bw3
                rw [hy] at cy
                have e1 : ¬ k < f := by omega
                have e2 : ¬ t ≤ k := by omega
                have hA5 : A3 ≤ 1000 := by have := HGL.out; omega
                have hN4 := Lib.hid (show N3 + 1 = a * (n * P) + k * P + (b + 1) by rw [hN3.out]; omega)
                have hA4 := Lib.hid (show A3 + 1 = a * ((t - f) * P) + midK f t k * P + (if f ≤ k ∧ k < t then b + 1 else 0) by rw [if_pos hin, midK_in hin, hA3']; omega)
                obtain ⟨s1, s2, s3, s4, s5, s6⟩ := snoc_of y hrow3.out hbr3.out hmw
                clear hst hy hL0 bw3 hval hA3' hNl hin
                go_wp2_with (at_builtin; refine wpList_append_own _ rfl _ _ 47 rfl W.heap.size 2 i0 (.int .i64 0) 1 8 Try.underlying47 hi hz0 hz1 hz2 rfl (by decide) _ N3 _ rfl s1 ⟨_, 0, none⟩ 1 1 [.int .i64 y] rfl rfl s2 s3 s4 s5 s6 ?_)
                intro v' w5 hown hgrow hnil
                have hb5 := Lib.hid (snoc_below hrow3.out hbr3.out hgrow)
                rw [← HL0.out, ← snoc_int, ← HST.out] at hown
                have hown' := Lib.hid hown
                clear hown hgrow hnil s1 s2 s3 s4 s5 s6
                clear cy
                go_wp2_with fail
                go_roundw
                case rel => exact ⟨b + 1, N3 + 1, A3 + 1, by omega, by go_num, by go_num, hN4, hA4, hown', hb5⟩
                case measure => (simp [intOf]; try omega)
              · rw [if_neg hin] at hval hst
                have HST := Lib.hid hst
                have hN4 := Lib.hid (show N3 + 1 = a * (n * P) + k * P + (b + 1) by rw [hN3.out]; omega)
                have hA4 := Lib.hid (show A3 = a * ((t - f) * P) + midK f t k * P + (if f ≤ k ∧ k < t then b + 1 else 0) by rw [if_neg hin, hA3.out, if_neg hin])
                obtain ⟨s1, s2, s3, s4, s5, s6⟩ := snoc_of 0 hrow3.out hbr3.out hmw
                by_cases e1 : k < f
                · clear hst hL0 bw3 hval hNl hin
                  go_wp2_with (at_builtin; refine wpList_append_own _ rfl _ _ 47 rfl W.heap.size 2 i0 (.int .i64 0) 1 8 Try.underlying47 hi hz0 hz1 hz2 rfl (by decide) _ N3 _ rfl s1 ⟨_, 0, none⟩ 1 1 [.int .i64 0] rfl rfl s2 s3 s4 s5 s6 ?_)
                  intro v' w5 hown hgrow hnil
                  have hb5 := Lib.hid (snoc_below hrow3.out hbr3.out hgrow)
                  rw [← HL0.out, ← snoc_int, ← HST.out] at hown
                  have hown' := Lib.hid hown
                  clear hown hgrow hnil s1 s2 s3 s4 s5 s6
                  go_wp2_with fail
                  go_roundw
                  case rel => exact ⟨b + 1, N3 + 1, A3, by omega, by go_num, rfl, hN4, hA4, hown', hb5⟩
                  case measure => (simp [intOf]; try omega)
                · have e2 : t ≤ k := by omega
                  clear hst hL0 bw3 hval hNl hin
                  go_wp2_with (at_builtin; refine wpList_append_own _ rfl _ _ 47 rfl W.heap.size 2 i0 (.int .i64 0) 1 8 Try.underlying47 hi hz0 hz1 hz2 rfl (by decide) _ N3 _ rfl s1 ⟨_, 0, none⟩ 1 1 [.int .i64 0] rfl rfl s2 s3 s4 s5 s6 ?_)
                  intro v' w5 hown hgrow hnil
                  have hb5 := Lib.hid (snoc_below hrow3.out hbr3.out hgrow)
                  rw [← HL0.out, ← snoc_int, ← HST.out] at hown
                  have hown' := Lib.hid hown
                  clear hown hgrow hnil s1 s2 s3 s4 s5 s6
                  go_wp2_with fail
                  go_roundw
                  case rel => exact ⟨b + 1, N3 + 1, A3, by omega, by go_num, rfl, hN4, hA4, hown', hb5⟩
                  case measure => (simp [intOf]; try omega)
            · obtain rfl : b = P := by omega
              have hN4 := Lib.hid (show N3 = a * (n * b) + (k + 1) * b by rw [hN3.out, Nat.succ_mul]; omega)
              have hA4 := Lib.hid (show A3 = a * ((t - f) * b) + midK f t (k + 1) * b by rw [hA3.out]; exact midK_step _ hft2)
              go_wp2_with fail
              go_roundw
              case rel => exact ⟨k + 1, N3, A3, by omega, by go_num, rfl, hN4, hA4, hrow3, hbr3⟩
              case measure => (simp [intOf]; try omega)
        · obtain rfl : k = n := by omega
          have hN4 := Lib.hid (show N2 = (a + 1) * (k * P) by rw [hN2.out, Nat.succ_mul])
          have hA4 := Lib.hid (show A2 = (a + 1) * ((t - f) * P) by rw [hA2.out, midK_all (by omega) htn, Nat.succ_mul])
          go_wp2_with fail
          go_roundw
          case rel => exact ⟨a + 1, N2, A2, by omega, by go_num, rfl, hN4, hA4, hrow2, hbr2⟩
          case measure => (simp [intOf]; try omega)
    · obtain rfl : a = M := by omega
      have hN9 := hNe.out
      have hq := Joins.ownsRow_le hrow.out bW.out.size
      have hb := Lib.hid (bW.out.trans (hbr.out.mono bW.out.size))
      have hNp : 0 < N := by rw [hN9]; exact Nat.mul_pos hM1 hnP1.out
      rcases Joins.ownsRow_forms hrow.out with ⟨e1, e2⟩ | ⟨g, c, e1⟩
      · omega
      · subst e1
        have hN10 : N ≤ 1000 := by have := HM6.out; omega
        have hq' : Hid (IntsAt wr (some ⟨g, 0, none⟩) N (spreadP gs (f * P) ((t - f) * P) ((n - t) * P) a)) := Lib.hid (by
          have h1 := hrow.out
          rw [List.take_of_length_le (by rw [HFL.out, hN9]; exact Nat.le_refl _)] at h1
          exact row_ints h1 (by omega) HSF.out)
        have F : Hid (∃ A cap, (Ending.returned (.slice (some ⟨g, 0, none⟩) N c)) = .returned (.slice A (a * (n * P)) cap) ∧ IntsAt wr A (a * (n * P)) (spreadP gs (f * P) ((t - f) * P) ((n - t) * P) a) ∧ Below w.heap.size w wr) := Lib.hid ⟨_, c, by rw [hN9], by rw [← hN9]; exact hq'.out, hb.out⟩
        clear hrow hq hN9 hNp hNe
        go_wp2_with fail
        go_ret
        exact F.out
end Go.Proofs.Ytieegaojcjhfdaa

