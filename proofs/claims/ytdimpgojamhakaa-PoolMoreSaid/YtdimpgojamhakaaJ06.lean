import Derived.Test.YtdimpgojamhakaaJ01
import Derived.Test.YtdimpgojamhakaaJ02
import Derived.Test.YtdimpgojamhakaaJ03
import Derived.Test.YtdimpgojamhakaaJ04
import Derived.Test.YtdimpgojamhakaaJ05
/-
  The reference of layer 8: Row.
-/
namespace Go.Proofs.Ytdimpgojamhakaa
open Go.RowKit
set_option linter.unusedVariables false
set_option linter.unusedSimpArgs false

theorem sumF_next (row : List Int) (q j : Nat) (h : q + j < row.length) : sumF ((row.drop q).take (j + 1)) = sat (sumF ((row.drop q).take j) + row.getD (q + j) 0) := by
  rw [take_more q j h, sumF_snoc]
theorem maxN_yes {row : List Int} {a k : Nat} (h : maxN row a k < row.getD (a + k) 0) : maxN row a (k + 1) = row.getD (a + k) 0 := by rw [maxN_succ, if_pos h]
theorem maxN_not {row : List Int} {a k : Nat} (h : ¬ maxN row a k < row.getD (a + k) 0) : maxN row a (k + 1) = maxN row a k := by rw [maxN_succ, if_neg h]

set_option maxRecDepth 100000 in
set_option maxHeartbeats 8000000 in
theorem refrow_any (kind : Int) (ra : Option Addr) (L rc : Nat) (row : List Int) (wn s n : Nat) (w : World) (h : IntsAt w ra L row) (hn : ∀ i, i < n ↔ i * s + wn ≤ L) (h1 : 1 ≤ wn) (h2 : wn ≤ 1024) (s1 : 1 ≤ s) (s2 : s ≤ 1024) (hL : L ≤ 65536) (hn1 : 1 ≤ n) (hnL : n ≤ L) :
    Calls Try.prog 17 #[.int .i64 kind, .slice ra L rc, .int .i64 wn, .int .i64 s] w fun e w' => ∃ A c, e = .returned (.slice A n c) ∧ w'.ownsRow w.heap.size 2 1 (.slice A n c) n ((poolL kind row wn s n).map (Value.int .i64)) ∧ Below w.heap.size w w' := by
  have hlen := Lib.hid h.1
  have HF := Lib.hid h.2.2.1
  obtain ⟨b, off, rfl, hcell⟩ := ints_cell h (by omega)
  have HCE := Lib.hid (fun w1 (hb : Below w.heap.size w w1) k (hk : k < L) => cell_later hb (hcell k hk))
  have HN := Lib.hid hn
  obtain ⟨i0, hi, hz0, hz1, hz2⟩ := info_parts i64Info
  clear h hcell hn
  go_enter Try.func17, Try.ntmps17
  go_wp2_with fail
  go_loopw [9, 10] (fun t a wr => ∃ i q : Nat, i ≤ n ∧ a = .int .i64 q ∧ q ≤ L + s ∧ Hid (q = i * s) ∧ Hid (wr.ownsRow w.heap.size 2 1 t i ((poolL kind row wn s i).map (Value.int .i64))) ∧ Hid (Below w.heap.size w wr)) (fun _ a _ => L + s - (intOf a).toNat)
  case atStart => exact ⟨0, 0, Nat.zero_le _, rfl, by omega, Lib.hid (by simp), Lib.hid (World.ownsRow_nil _ _ _ _), Lib.hid (Below.refl _ _)⟩
  case round =>
    obtain ⟨i, q, hin, rfl, hqL, hq, hrow, hbr⟩ := hrel
    by_cases hlt : q + wn ≤ L
    · have hlt' : (q : Int) + (wn : Int) ≤ (L : Int) := by omega
      have hilt : i < n := (HN.out i).2 (by rw [← hq.out]; exact hlt)
      have k0 := HCE.out wr hbr.out q (by omega)
      have M0 : Hid (row.getD q 0 = maxN row q 0) := Lib.hid rfl
      rw [M0.out] at k0
      obtain ⟨b0, hb0⟩ : ∃ b0, maxN row q 0 = b0 := ⟨_, rfl⟩
      rw [hb0] at k0
      have HB0 := Lib.hid hb0
      clear hb0
      go_wp2_with fail
      go_loopw [11, 12, 13] (fun bv u kv wq => ∃ j p : Nat, j ≤ wn ∧ p = q + j ∧ kv = .int .i64 p ∧ bv = .int .i64 (maxN row q j) ∧ u = .int .i64 (sumF ((row.drop q).take j)) ∧ wq = wr) (fun _ _ kv _ => q + wn - (intOf kv).toNat)
      case atStart => exact ⟨0, q, Nat.zero_le _, rfl, rfl, by rw [← HB0.out], by simp [sumF], rfl⟩
      case round =>
        obtain ⟨j, p, hj, hp, rfl, rfl, rfl, rfl⟩ := hrel
        have sb := sumF_fits ((row.drop q).take j)
        by_cases hjl : j < wn
        · have hpl : (p : Int) < (q : Int) + (wn : Int) := by omega
          have k1 := HCE.out wr hbr.out p (by omega)
          have ST := sumF_next row q j (by rw [hlen.out]; omega)
          have MY := Lib.hid (fun (hh : maxN row q j < row.getD (q + j) 0) => maxN_yes hh)
          have MN := Lib.hid (fun (hh : ¬ maxN row q j < row.getD (q + j) 0) => maxN_not hh)
          have xb := HF.out.getD p
          rw [← hp] at ST MY MN
          obtain ⟨x, hx⟩ : ∃ x, row.getD p 0 = x := ⟨_, rfl⟩
          rw [hx] at k1 ST MY MN xb
          obtain ⟨m, hm⟩ : ∃ m, maxN row q j = m := ⟨_, rfl⟩
          rw [hm] at MY MN
          obtain ⟨u, hu⟩ : ∃ u, sumF ((row.drop q).take j) = u := ⟨_, rfl⟩
          rw [hu] at ST sb
          have AD := Lib.hid (refadd_any u x wr sb.1 sb.2 xb.1 xb.2)
          have STH := Lib.hid ST
          rw [hm, hu]
          have hp1 : Hid (p + 1 = q + (j + 1)) := Lib.hid (by omega)
          have hpL : p < L := by omega
          have hp6 : p ≤ 65536 := by omega
          clear ST hx hm hu sb xb hp
          by_cases c : m < x
          · have E := Lib.hid (MY.out c)
            clear MY MN
            go_wp2_with fail
            refine AD.out.mono ?_
            rintro e w' ⟨rfl, rfl⟩
            go_wp2_with fail
            go_roundw
            case rel => exact ⟨j + 1, p + 1, by omega, hp1.out, by go_num, by rw [E.out], by rw [STH.out], by first | rfl | trivial⟩
            case measure => (simp [intOf]; try omega)
          · have E := Lib.hid (MN.out c)
            clear MY MN
            go_wp2_with fail
            refine AD.out.mono ?_
            rintro e w' ⟨rfl, rfl⟩
            go_wp2_with fail
            go_roundw
            case rel => exact ⟨j + 1, p + 1, by omega, hp1.out, by go_num, by rw [E.out], by rw [STH.out], by first | rfl | trivial⟩
            case measure => (simp [intOf]; try omega)
        · have hjE : j = wn := by omega
          have hpl : ¬ (p : Int) < (q : Int) + (wn : Int) := by omega
          rw [hjE] at sb ⊢
          have E1 : Hid (kind = 1 → maxN row q wn = poolC kind row wn s i) := Lib.hid (fun e => by unfold poolC; rw [if_pos e, hq.out])
          have E2 : Hid (¬ kind = 1 → divF (sumF ((row.drop q).take wn)) ((wn : Int) * 4294967296) = poolC kind row wn s i) := Lib.hid (fun e => by unfold poolC; rw [if_neg e, hq.out]; rfl)
          obtain ⟨m, hm⟩ : ∃ m, maxN row q wn = m := ⟨_, rfl⟩
          obtain ⟨u, hu⟩ : ∃ u, sumF ((row.drop q).take wn) = u := ⟨_, rfl⟩
          rw [hm] at E1 ⊢
          rw [hu] at E2 sb ⊢
          have HST := Lib.hid (poolL_succ kind row wn s i)
          have N1 : Hid (q + s = (i + 1) * s) := Lib.hid (by rw [hq.out, Nat.add_mul, Nat.one_mul])
          have hp6 : p ≤ 65536 := by omega
          have hqs : q + s ≤ L + s := by omega
          have hi6 : i ≤ 65536 := by omega
          clear hm hu hp hj hjE k0 HB0
          by_cases ck : kind = 1
          · have E := Lib.hid (E1.out ck)
            have ckb : (kind == 1) = true := beq_iff_eq.2 ck
            clear E1 E2 sb ck
            obtain ⟨t1, t2, t3, t4, t5, t6⟩ := snocT_of (t := 2) (B := w.heap.size) (wr := wr) m hrow.out hbr.out.size hi6
            go_wp2_with (at_builtin; refine wpList_append_own _ rfl _ _ 41 rfl w.heap.size 2 i0 (.int .i64 0) 1 8 Try.underlying41 hi hz0 hz1 hz2 rfl (by decide) _ i _ rfl t1 ⟨_, 0, none⟩ 1 1 [.int .i64 m] rfl rfl t2 t3 t4 t5 t6 ?_)
            intro v' w5 hown hgrow hnil
            rw [← snoc_int, E.out, ← HST.out] at hown
            have hown' := Lib.hid hown
            have hb5 := Lib.hid (snocT_below hrow.out hbr.out hbr.out.size hgrow)
            clear hown hgrow hnil t1 t2 t3 t4 t5 t6
            go_wp2_with fail
            go_roundw
            case rel => exact ⟨i + 1, q + s, by omega, by go_num, hqs, N1, hown', hb5⟩
            case measure => (simp [intOf]; try omega)
          · have E := Lib.hid (E2.out ck)
            clear E1 E2
            have DV := Lib.hid (refdiv8_any u wn wr sb.1 sb.2 h2)
            obtain ⟨y, hy⟩ : ∃ y, divF u ((wn : Int) * 4294967296) = y := ⟨_, rfl⟩
            rw [hy] at DV E
            clear hy sb
            go_wp2_with fail
            refine DV.out.mono ?_
            rintro e w4 ⟨rfl, hb4⟩
            have hb4' := Lib.hid (hbr.out.trans (hb4.mono hbr.out.size))
            have row4 := Lib.hid (row_kept hrow.out hb4)
            clear hb4
            obtain ⟨t1, t2, t3, t4, t5, t6⟩ := snocT_of (t := 2) (B := w.heap.size) (wr := w4) y row4.out hb4'.out.size hi6
            go_wp2_with (at_builtin; refine wpList_append_own _ rfl _ _ 41 rfl w.heap.size 2 i0 (.int .i64 0) 1 8 Try.underlying41 hi hz0 hz1 hz2 rfl (by decide) _ i _ rfl t1 ⟨_, 0, none⟩ 1 1 [.int .i64 y] rfl rfl t2 t3 t4 t5 t6 ?_)
            intro v' w5 hown hgrow hnil
            rw [← snoc_int, E.out, ← HST.out] at hown
            have hown' := Lib.hid hown
            have hb5 := Lib.hid (snocT_below row4.out hb4'.out hb4'.out.size hgrow)
            clear hown hgrow hnil t1 t2 t3 t4 t5 t6
            go_wp2_with fail
            go_roundw
            case rel => exact ⟨i + 1, q + s, by omega, by go_num, hqs, N1, hown', hb5⟩
            case measure => (simp [intOf]; try omega)
    · have hlt' : ¬ (q : Int) + (wn : Int) ≤ (L : Int) := by omega
      have hin2 : i = n := by
        have := mt (HN.out i).1 (by rw [← hq.out]; exact hlt)
        omega
      rw [hin2] at hrow
      obtain ⟨g, c, e1⟩ := Joins.ownsRow_form hrow.out hn1
      subst e1
      clear hin2
      go_wp2_with fail
      go_ret
      exact ⟨_, _, rfl, hrow.out, hbr.out⟩
end Go.Proofs.Ytdimpgojamhakaa

/-
  The walk of the statement PoolGoes.
-/
namespace Go.Proofs.Ytdimpgojamhakaa
open Go.RowKit
set_option linter.unusedVariables false
set_option linter.unusedSimpArgs false

set_option maxRecDepth 100000 in
set_option maxHeartbeats 4000000 in
theorem poolGoes_big (kd : Int) (x G : TV) (wd st : Int) (w : World) (hs : small8 x G = false) :
    Calls Try.prog 4 #[.agg #[.int .i64 kd, .slice x.sa x.sl x.sc, .slice x.ca x.cl x.cc, .slice G.sa G.sl G.sc, .slice G.ca G.cl G.cc, .int .i64 wd, .int .i64 st]] w fun e w' => e = .returned (.bool true) ∧ Below w.heap.size w w' := by
  obtain ⟨wA, hwA, J, z, -⟩ := case8_box w (.int .i64 kd) (.slice x.sa x.sl x.sc) (.slice x.ca x.cl x.cc) (.slice G.sa G.sl G.sc) (.slice G.ca G.cl G.cc) (.int .i64 wd) (.int .i64 st)
  have SM := small8_any kd x G wd st wA
  rw [hs] at SM
  have SM' := Lib.hid SM
  clear SM hs
  obtain ⟨j0, ⟨j1, j2⟩, ⟨j3, j4⟩, j5, j6⟩ := (J.out).see
  go_enter Try.func4, Try.ntmps4
  go_upto_region 1 with (fail)
  rw [hwA.out]
  go_wp2_with fail
  refine SM'.out.mono ?_
  rintro e w1 ⟨rfl, hb1⟩
  have b1 := Lib.hid (z.out.trans (hb1.mono z.out.size))
  clear SM' hb1 j0 j1 j2 j3 j4 j5 j6
  go_wp2_with fail
  refine (awake08_any _).mono ?_
  rintro e w9 ⟨rfl, hb9⟩
  go_wp2_with fail
  go_ret
  exact ⟨rfl, b1.out.trans (hb9.mono b1.out.size)⟩

set_option maxRecDepth 100000 in
set_option maxHeartbeats 8000000 in
theorem poolGoes_bad (kd : Int) (x G : TV) (wd st : Int) (w : World) (hx : x.At w) (hs : small8 x G = true) (hE : kindE kd x.ss x.cl wd st ≠ 0) :
    Calls Try.prog 4 #[.agg #[.int .i64 kd, .slice x.sa x.sl x.sc, .slice x.ca x.cl x.cc, .slice G.sa G.sl G.sc, .slice G.ca G.cl G.cc, .int .i64 wd, .int .i64 st]] w fun e w' => e = .returned (.bool true) ∧ Below w.heap.size w w' := by
  obtain ⟨wA, hwA, J, z, -⟩ := case8_box w (.int .i64 kd) (.slice x.sa x.sl x.sc) (.slice x.ca x.cl x.cc) (.slice G.sa G.sl G.sc) (.slice G.ca G.cl G.cc) (.int .i64 wd) (.int .i64 st)
  have SM := small8_any kd x G wd st wA
  rw [hs] at SM
  have SM' := Lib.hid SM
  have GO := fun w1 (hb : Below wA.heap.size wA w1) => pgo_no kd x wd st w1 ((hx.kept z.out).kept hb) hE
  have FI := fun w1 (hb : Below wA.heap.size wA w1) => refused8_any kd x G wd st w1 ((hx.kept z.out).kept hb)
  obtain ⟨v, hv⟩ : ∃ v, kindE kd x.ss x.cl wd st = v := ⟨_, rfl⟩
  rw [hv] at FI GO hE
  replace GO := Lib.hid GO
  have FI' := Lib.hid FI
  have hv0 : ¬ v = 0 := hE
  clear SM hs FI hx hv hE
  obtain ⟨j0, ⟨j1, j2⟩, ⟨j3, j4⟩, j5, j6⟩ := (J.out).see
  go_enter Try.func4, Try.ntmps4
  go_upto_region 1 with (fail)
  rw [hwA.out]
  go_wp2_with fail
  refine SM'.out.mono ?_
  rintro e w1 ⟨rfl, hb1⟩
  have b1 := Lib.hid hb1
  clear SM' hb1 j0 j1 j2 j3 j4 j5 j6
  obtain ⟨j0, ⟨j1, j2⟩, ⟨j3, j4⟩, j5, j6⟩ := (J.out.kept b1.out).see
  go_wp2_with fail
  refine (GO.out w1 b1.out).mono ?_
  rintro e w2 ⟨rfl, hb2⟩
  obtain ⟨wC, hwC, JY, zC, nC⟩ := grid_box w2 (.slice none 0 0) (.slice none 0 0)
  have b2 := Lib.hid (b1.out.trans ((hb2.trans (zC.out.mono hb2.size)).mono b1.out.size))
  clear hb2 GO j0 j1 j2 j3 j4 j5 j6
  go_upto_region 4 with (fail)
  rw [hwC.out]
  obtain ⟨j0, ⟨j1, j2⟩, ⟨j3, j4⟩, j5, j6⟩ := (J.out.kept b2.out).see
  go_wp2_with fail
  refine (FI'.out wC b2.out).mono ?_
  rintro e w3 ⟨rfl, hb3⟩
  obtain ⟨l0, l1, -, -⟩ := (JY.out.kept hb3).see
  have b3z := Lib.hid (z.out.trans ((b2.out.trans (hb3.mono b2.out.size)).mono z.out.size))
  clear hb3 FI' j0 j1 j2 j3 j4 j5 j6
  go_wp2_with fail
  refine (awake08_any _).mono ?_
  rintro e w9 ⟨rfl, hb9⟩
  go_wp2_with fail
  go_ret
  exact ⟨rfl, b3z.out.trans (hb9.mono b3z.out.size)⟩

set_option maxRecDepth 100000 in
set_option maxHeartbeats 16000000 in
theorem poolGoes_ok (kd : Int) (x G : TV) (wd st : Int) (w : World) (hx : x.At w ∧ x.Cap) (hs : small8 x G = true) (hE : kindE kd x.ss x.cl wd st = 0) :
    Calls Try.prog 4 #[.agg #[.int .i64 kd, .slice x.sa x.sl x.sc, .slice x.ca x.cl x.cc, .slice G.sa G.sl G.sc, .slice G.ca G.cl G.cc, .int .i64 wd, .int .i64 st]] w fun e w' => e = .returned (.bool true) ∧ Below w.heap.size w w' := by
  obtain ⟨s1, s2, s3, s4⟩ := small8_parts hs
  obtain ⟨-, hr, hps⟩ := kindE_parts hE
  obtain ⟨hr1, hr2⟩ := rightT_parts hr
  obtain ⟨p1, p2, -, -⟩ := rightS_parts hr1
  obtain ⟨side, wn, s, n, R, hp⟩ := pool_numbers hps
  have hcl : x.cl = R * side := by have := hp.cells; omega
  have hsl : x.ss.length = x.sl := hx.1.1.1
  have HPS := Lib.hid (psS_fits hps)
  have SM := Lib.hid (fun w1 => hs ▸ small8_any kd x G wd st w1)
  have GO := fun w1 (hb : Below w.heap.size w w1) => pgo_ok kd x wd st side wn s n R w1 (hx.1.kept hb) hx.2 hE hp
  have FI := Lib.hid (fun w1 (hb : Below w.heap.size w w1) => hE ▸ refused8_any kd x G wd st w1 (hx.1.kept hb))
  have TO := fun w1 (hb : Below w.heap.size w w1) => (told8_any x.sa x.sl x.sc x.ss wd st w1 (hx.1.1.kept hb)).mono fun e w' h => h.1 hps
  have CX := Lib.hid (fun w1 (hb : Below w.heap.size w w1) => cells8_any x.ca x.cl x.cc x.cs w1 (hx.1.2.1.kept hb) (by omega))
  have HXF := Lib.hid hx.1.2.1.2.2.1
  obtain ⟨k, hk⟩ : ∃ k, x.sl = k + 1 := ⟨x.sl - 1, by omega⟩
  obtain ⟨sb, so, hsa, hscell⟩ := ints_cell hx.1.1 (by omega)
  have hlast : x.ss.getD k 0 = side := by rw [← hp.last]; unfold lastI; rw [hsl, hk]; rfl
  have hsc := hscell k (by omega)
  rw [hlast] at hsc
  have HSC := Lib.hid (fun w1 (hb : Below w.heap.size w w1) => cell_later hb hsc)
  have ek : (x.sl : Int) - 1 = (k : Int) := by omega
  have ek2 : (k : Int) < (x.sl : Int) := by omega
  have ek3 : IntKind.i64.wrap (k : Int) = (k : Int) := IntWalk.i64_in _ (by omega)
  have hn1 : 1 ≤ n := hp.n1
  have hn2 : 0 < n := hp.n1
  have hw1 : 1 ≤ wn := hp.w1
  have hw2 : wn ≤ 1024 := hp.w2
  have hs1 : 1 ≤ s := hp.s1
  have hs2 : s ≤ 1024 := hp.s2
  have hsd : side ≤ 1024 := hp.side2
  have hsd1 : 1 ≤ side := by have := hp.ws; omega
  have hnle : n ≤ side := hp.nle
  have hRn : R * n ≤ 65536 := Nat.le_trans hp.outle hp.most
  have HWIN := Lib.hid (fun i => hp.win (i := i))
  have HGL := Lib.hid (goL_rows hp kd x.cs R)
  have HRS := Lib.hid (fun r => rowsL_succ (fun row => poolL kd row wn s n) x.cs side r)
  have HRR := Lib.hid hp.R1
  have ewd := hp.wdE
  have est := hp.stE
  subst ewd est
  obtain ⟨cl, hclE⟩ : ∃ cl, x.cl = cl := ⟨_, rfl⟩
  rw [hclE] at CX hcl s3 ⊢
  have HCL := Lib.hid hcl
  have HXC : Hid (x.cs.length = cl) := Lib.hid (by rw [← hclE]; exact hx.1.2.1.1)
  obtain ⟨os, hos⟩ : ∃ os, psS x.ss (wn : Int) (s : Int) = os := ⟨_, rfl⟩
  obtain ⟨M, hM⟩ : ∃ M, R * n = M := ⟨_, rfl⟩
  obtain ⟨L, hL⟩ : ∃ L, goL kd x.cs wn (winsL side s n R) = L := ⟨_, rfl⟩
  have HPF0 : Fits L := by
    rw [← hL]
    intro t ht
    unfold goL at ht
    obtain ⟨p, -, rfl⟩ := List.mem_map.1 ht
    unfold poolA
    split
    · exact maxN_fits HXF.out _ _
    · exact divF_bounds _ _
  have HLF := Lib.hid HPF0
  have hrl : x.ss.length ≤ 9 := by omega
  obtain ⟨kk, hkk⟩ : ∃ kk, x.ss.length = kk := ⟨_, rfl⟩
  rw [hclE, hos, hM, hL, hkk] at GO
  rw [hos, hkk] at TO
  rw [hos] at HPS
  rw [hM] at hRn
  rw [hL] at HGL
  rw [hkk] at hrl
  have HM := Lib.hid hM
  rw [hsa] at GO TO ⊢
  have HSA := Lib.hid hsa
  simp only [hclE, hsa] at SM FI
  replace GO := Lib.hid GO
  replace TO := Lib.hid TO
  clear hr hps hr1 hr2 p1 p2 hp hcl hsl hx hs hE hsa hscell hsc hlast hos hM hL HPF0 hclE s1 s2 s4 hkk hk
  obtain ⟨wA, hwA, J, z, -⟩ := case8_box w (.int .i64 kd) (.slice (some ⟨sb, so, none⟩) x.sl x.sc) (.slice x.ca cl x.cc) (.slice G.sa G.sl G.sc) (.slice G.ca G.cl G.cc) (.int .i64 (wn : Int)) (.int .i64 (s : Int))
  obtain ⟨j0, ⟨j1, j2⟩, ⟨j3, j4⟩, j5, j6⟩ := (J.out).see
  go_enter Try.func4, Try.ntmps4
  go_upto_region 1 with (fail)
  rw [hwA.out]
  go_wp2_with fail
  refine (SM.out wA).mono ?_
  rintro e w1 ⟨rfl, hb1⟩
  have b1 := Lib.hid (z.out.trans (hb1.mono z.out.size))
  have K1 := Lib.hid (J.out.kept hb1)
  clear SM hb1 j0 j1 j2 j3 j4 j5 j6
  obtain ⟨j0, ⟨j1, j2⟩, ⟨j3, j4⟩, j5, j6⟩ := (K1.out).see
  go_wp2_with fail
  refine (GO.out w1 b1.out).mono ?_
  rintro e w2 ⟨v', rfl, Y, yc, Y', yc', rfl, o1, o2, -, hb2⟩
  obtain ⟨wC, hwC, JY, zC, nC⟩ := grid_box w2 (.slice Y kk yc) (.slice Y' M yc')
  have k2 := Lib.hid (hb2.trans (zC.out.mono hb2.size))
  have b2 := Lib.hid (b1.out.trans (k2.out.mono b1.out.size))
  have K2 := Lib.hid (K1.out.kept k2.out)
  have IS := Lib.hid ((row_ints o1 (show kk ≤ 9223372036854775807 by omega) HPS.out).kept zC.out)
  have IC := Lib.hid ((row_ints o2 (show M ≤ 9223372036854775807 by omega) HLF.out).kept zC.out)
  clear hb2 GO o1 o2 K1 j0 j1 j2 j3 j4 j5 j6
  go_upto_region 4 with (fail)
  rw [hwC.out]
  obtain ⟨j0, ⟨j1, j2⟩, ⟨j3, j4⟩, j5, j6⟩ := (K2.out).see
  go_wp2_with fail
  refine (FI.out wC b2.out).mono ?_
  rintro e w3 ⟨rfl, hb3⟩
  have k3 := Lib.hid hb3
  have b3 := Lib.hid (b2.out.trans (hb3.mono b2.out.size))
  have K3 := Lib.hid (K2.out.kept hb3)
  clear hb3 FI K2 j0 j1 j2 j3 j4 j5 j6
  obtain ⟨j0, ⟨j1, j2⟩, ⟨j3, j4⟩, j5, j6⟩ := (K3.out).see
  go_wp2_with fail
  refine (TO.out w3 b3.out).mono ?_
  rintro e w4 ⟨A4, c4, rfl, o4, hb4⟩
  have k4 := Lib.hid (k3.out.trans (hb4.mono k3.out.size))
  have b4 := Lib.hid (b3.out.trans (hb4.mono b3.out.size))
  have K4 := Lib.hid (K3.out.kept hb4)
  have I4 := Lib.hid (row_ints o4 (show kk ≤ 9223372036854775807 by omega) HPS.out)
  have csc := HSC.out w4 b4.out
  clear hb4 TO o4 K3 j0 j1 j2 j3 j4 j5 j6
  obtain ⟨j0, ⟨j1, j2⟩, ⟨j3, j4⟩, j5, j6⟩ := (K4.out).see
  go_wp2_with fail
  refine (CX.out w4 b4.out).mono ?_
  rintro e w9 ⟨A9, c9, rfl, o9, hb9⟩
  obtain ⟨g9, c9', hv⟩ := Joins.ownsRow_form o9 (by rw [HCL.out]; exact Nat.mul_pos HRR.out hsd1)
  simp only [Value.slice.injEq] at hv
  obtain ⟨rfl, -, rfl⟩ := hv
  have hcap := row_caps o9
  have k9 := Lib.hid (k4.out.trans (hb9.mono k4.out.size))
  have b9 := Lib.hid (b4.out.trans (hb9.mono b4.out.size))
  have K9 := Lib.hid (K4.out.kept hb9)
  have I9 := Lib.hid (row_ints o9 (by omega) HXF.out)
  have I49 := Lib.hid (I4.out.kept hb9)
  clear hb9 CX o9 K4 I4 csc j0 j1 j2 j3 j4 j5 j6
  go_wp2_with fail
  go_loopw [10, 11] (fun tt a wr => ∃ (r q ln : Nat) (t : Value), t = tt ∧ r ≤ R ∧ a = .int .i64 q ∧ Hid (q = r * side) ∧ Hid (ln = r * n) ∧ Hid (wr.ownsRow w9.heap.size 2 1 t ln ((rowsL (fun row => poolL kd row wn s n) x.cs side r).map (Value.int .i64))) ∧ Hid (Below w9.heap.size w9 wr)) (fun _ a _ => cl - (intOf a).toNat)
  case atStart => exact ⟨0, 0, 0, _, rfl, Nat.zero_le _, rfl, Lib.hid (by simp), Lib.hid (by simp), Lib.hid (by unfold rowsL; rw [partsL_zero]; exact World.ownsRow_nil _ _ _ _), Lib.hid (Below.refl _ _)⟩
  case round =>
    obtain ⟨r, q, ln, t, rfl, hrR, rfl, hq, hln, hrow, hbr⟩ := hrel
    by_cases hrl2 : r < R
    · have hqs : q + side ≤ cl := by
        rw [HCL.out, hq.out]
        have := Nat.mul_le_mul_right side hrl2
        rw [Nat.succ_mul] at this
        exact this
      have hlt : (q : Int) < (cl : Int) := by omega
      have hl2 : r * n + n ≤ R * n := by
        have := Nat.mul_le_mul_right n hrl2
        rw [Nat.succ_mul] at this
        exact this
      obtain ⟨ln2, hln2⟩ : ∃ ln2, ln + n = ln2 := ⟨_, rfl⟩
      have hln6 : ln2 ≤ 65536 := by rw [← hln2, hln.out]; rw [HM.out] at hl2; omega
      have hln7 : ln + n ≤ 1000000 := by omega
      have hln8 : 0 < ln2 := by omega
      have N2 : Hid (ln2 = (r + 1) * n) := Lib.hid (by rw [← hln2, hln.out, Nat.add_mul, Nat.one_mul])
      have N1 : Hid (q + side = (r + 1) * side) := Lib.hid (by rw [hq.out, Nat.add_mul, Nat.one_mul])
      have RR : Hid (∀ w1, Below wr.heap.size wr w1 → Calls Try.prog 17 #[.int .i64 kd, .slice (some ⟨g9, q, none⟩) side (c9 - q), .int .i64 wn, .int .i64 s] w1 fun e w' => ∃ A c, e = .returned (.slice A n c) ∧ w'.ownsRow w1.heap.size 2 1 (.slice A n c) n ((poolL kd ((x.cs.drop q).take side) wn s n).map (Value.int .i64)) ∧ Below w1.heap.size w1 w') := Lib.hid (fun w1 hb => by
        have h0 := ((I9.out.kept hbr.out).kept hb).win q side hqs
        rw [Nat.zero_add] at h0
        exact refrow_any kd _ side _ _ wn s n w1 h0 (fun i => HWIN.out i) hw1 hw2 hs1 hs2 (by omega) hn1 hnle)
      have HPF : Hid (Fits (poolL kd ((x.cs.drop q).take side) wn s n)) := Lib.hid (by
        intro t ht
        unfold poolL at ht
        obtain ⟨i, -, rfl⟩ := List.mem_map.1 ht
        unfold poolC
        have hfs : Fits ((x.cs.drop q).take side) := fun z hz => HXF.out z (List.mem_of_mem_drop (List.mem_of_mem_take hz))
        split
        · exact maxN_fits hfs _ _
        · exact divF_bounds _ _)
      have HST : Hid (rowsL (fun row => poolL kd row wn s n) x.cs side r ++ poolL kd ((x.cs.drop q).take side) wn s n = rowsL (fun row => poolL kd row wn s n) x.cs side (r + 1)) := Lib.hid (by rw [HRS.out r, ← hq.out])
      obtain ⟨L0, hL0⟩ : ∃ L0, rowsL (fun row => poolL kd row wn s n) x.cs side r = L0 := ⟨_, rfl⟩
      rw [hL0] at hrow HST
      have HLN : Hid (ln2 = ln + n) := Lib.hid hln2.symm
      have CASEK : Hid (∀ w', Below w9.heap.size w9 w' → (w'.cell? ⟨w.heap.size, 0, none⟩ = some (.int .i64 kd) ∧ w'.cell? ⟨w.heap.size, 5, none⟩ = some (.int .i64 wn) ∧ w'.cell? ⟨w.heap.size, 6, none⟩ = some (.int .i64 s))) := Lib.hid (fun w' hb => by
        obtain ⟨j0, -, -, j5, j6⟩ := (K9.out.kept hb).see
        exact ⟨j0, j5, j6⟩)
      have SK : Hid (∀ w', Below wr.heap.size wr w' → (w'.cell? ⟨w.heap.size, 0, none⟩ = some (.int .i64 kd) ∧ w'.cell? ⟨w.heap.size, 5, none⟩ = some (.int .i64 wn) ∧ w'.cell? ⟨w.heap.size, 6, none⟩ = some (.int .i64 s))) := Lib.hid (fun w' hb => CASEK.out w' (hbr.out.trans (hb.mono hbr.out.size)))
      have t1 := Lib.hid (show Below wr.heap.size wr wr.drew from (Below.refl _ _).drew)
      have hq6 : q ≤ 65536 := by omega
      have y1 : (0 : Int) ≤ (q : Int) := by omega
      have y2 : (q : Int) ≤ (q : Int) + (side : Int) := by omega
      have y4 : IntKind.i64.wrap ((q : Int) + (side : Int)) = (q : Int) + (side : Int) := IntWalk.i64_in _ (by omega)
      have y5 : q + side - q = side := by omega
      have y6 : ((q : Int) + (side : Int)).toNat = q + side := by omega
      have y7 : (q : Int) + (side : Int) ≤ (c9 : Int) := by omega
      have y8 : ¬ c9 = q := by omega
      clear hL0 hln2 hl2
      go_upto_region 14 with (fail)
      refine wp_region_held_drew (S := fun w' => w'.cell? ⟨w.heap.size, 0, none⟩ = some (.int .i64 kd) ∧ w'.cell? ⟨w.heap.size, 5, none⟩ = some (.int .i64 wn) ∧ w'.cell? ⟨w.heap.size, 6, none⟩ = some (.int .i64 s)) (by kernel_rfl) (SK.out _ t1.out) (fun hHeld => ?_)
      refine held_take 0 (t) rfl (by kernel_rfl) (by kernel_rfl) (by kernel_rfl) (fun _ _ _ h => h) (by rfl) (by intro w' hS; go_simp) (by assumption) ?_
      try simp only [Act.put, List.setIfInBounds_toArray, List.set_cons_zero, List.set_cons_succ]
      refine held_take 1 (.pointer (some ⟨w.heap.size, 0, none⟩)) rfl (by kernel_rfl) (by kernel_rfl) (by kernel_rfl) (fun _ _ _ h => h) (by rfl) (by intro w' hS; go_simp) (by assumption) ?_
      try simp only [Act.put, List.setIfInBounds_toArray, List.set_cons_zero, List.set_cons_succ]
      refine held_take 2 (.int .i64 kd) rfl (by kernel_rfl) (by kernel_rfl) (by kernel_rfl) (fun _ _ _ h => h) (by rfl) (by intro w' hS; go_simp) (by assumption) ?_
      try simp only [Act.put, List.setIfInBounds_toArray, List.set_cons_zero, List.set_cons_succ]
      refine held_take 3 (.slice (some ⟨g9, 0, none⟩) cl c9) rfl (by kernel_rfl) (by kernel_rfl) (by kernel_rfl) (fun _ _ _ h => h) (by rfl) (by intro w' hS; go_simp) (by assumption) ?_
      try simp only [Act.put, List.setIfInBounds_toArray, List.set_cons_zero, List.set_cons_succ]
      refine held_take 4 (.int .i64 q) rfl (by kernel_rfl) (by kernel_rfl) (by kernel_rfl) (fun _ _ _ h => h) (by rfl) (by intro w' hS; go_simp) (by assumption) ?_
      try simp only [Act.put, List.setIfInBounds_toArray, List.set_cons_zero, List.set_cons_succ]
      refine held_take 5 (.int .i64 q) rfl (by kernel_rfl) (by kernel_rfl) (by kernel_rfl) (fun _ _ _ h => h) (by rfl) (by intro w' hS; go_simp) (by assumption) ?_
      try simp only [Act.put, List.setIfInBounds_toArray, List.set_cons_zero, List.set_cons_succ]
      refine held_take 6 (.int .i64 side) rfl (by kernel_rfl) (by kernel_rfl) (by kernel_rfl) (fun _ _ _ h => h) (by rfl) (by intro w' hS; go_simp) (by assumption) ?_
      try simp only [Act.put, List.setIfInBounds_toArray, List.set_cons_zero, List.set_cons_succ]
      refine held_take 7 (.int .i64 ((q : Int) + (side : Int))) rfl (by kernel_rfl) (by kernel_rfl) (by kernel_rfl) (fun _ _ _ h => h) (by rfl) (by intro w' hS; go_simp) (by assumption) ?_
      try simp only [Act.put, List.setIfInBounds_toArray, List.set_cons_zero, List.set_cons_succ]
      refine held_take 8 (.slice (some ⟨g9, q, none⟩) side (c9 - q)) rfl (by kernel_rfl) (by kernel_rfl) (by kernel_rfl) (fun _ _ _ h => h) (by rfl) (by intro w' hS; go_simp) (by assumption) ?_
      try simp only [Act.put, List.setIfInBounds_toArray, List.set_cons_zero, List.set_cons_succ]
      refine held_take 9 (.pointer (some ⟨w.heap.size, 5, none⟩)) rfl (by kernel_rfl) (by kernel_rfl) (by kernel_rfl) (fun _ _ _ h => h) (by rfl) (by intro w' hS; go_simp) (by assumption) ?_
      try simp only [Act.put, List.setIfInBounds_toArray, List.set_cons_zero, List.set_cons_succ]
      refine held_take 10 (.int .i64 wn) rfl (by kernel_rfl) (by kernel_rfl) (by kernel_rfl) (fun _ _ _ h => h) (by rfl) (by intro w' hS; go_simp) (by assumption) ?_
      try simp only [Act.put, List.setIfInBounds_toArray, List.set_cons_zero, List.set_cons_succ]
      refine held_take 11 (.pointer (some ⟨w.heap.size, 6, none⟩)) rfl (by kernel_rfl) (by kernel_rfl) (by kernel_rfl) (fun _ _ _ h => h) (by rfl) (by intro w' hS; go_simp) (by assumption) ?_
      try simp only [Act.put, List.setIfInBounds_toArray, List.set_cons_zero, List.set_cons_succ]
      refine held_take 12 (.int .i64 s) rfl (by kernel_rfl) (by kernel_rfl) (by kernel_rfl) (fun _ _ _ h => h) (by rfl) (by intro w' hS; go_simp) (by assumption) ?_
      try simp only [Act.put, List.setIfInBounds_toArray, List.set_cons_zero, List.set_cons_succ]
      refine held_call 13 (by kernel_rfl) rfl (by rfl) (fun K hK => ?_)
      go_simp
      refine (RR.out wr.drew t1.out).mono ?_
      rintro e wq ⟨A8, c8, rfl, o8, hb8⟩
      obtain ⟨g8, c8', hv⟩ := Joins.ownsRow_form o8 hn1
      simp only [Value.slice.injEq] at hv
      obtain ⟨rfl, -, rfl⟩ := hv
      have I8 := Lib.hid (row_ints o8 (by omega) HPF.out)
      have b8 := Lib.hid (t1.out.trans (hb8.mono t1.out.size))
      have r8 := Lib.hid (row_kept hrow.out b8.out)
      have hb8w := Lib.hid (hbr.out.trans (b8.out.mono hbr.out.size))
      clear o8 hb8
      go_wp2_with fail
      refine hK.out _ _ (SK.out _ b8.out) (fun hHeld => ?_)
      try simp only [Act.put, List.setIfInBounds_toArray, List.set_cons_zero, List.set_cons_succ]
      refine held_call 14 (by kernel_rfl) rfl (by rfl) (fun K hK => ?_)
      refine wp_append_ints _ _ 41 2 rfl Try.underlying41 (by kernel_rfl) w9.heap.size _ ln L0 rfl r8.out _ n c8 _ rfl I8.out (fun e => by cases e) hln7 hb8w.out.size ?_
      rintro v5 w5 o5 g5 -
      rw [← HLN.out, HST.out] at o5
      have o5' := Lib.hid o5
      have B5 := hb8w.out.grown g5 hb8w.out.size (fun q hq => (r8.out.lt q hq).1)
      have hB5 := Lib.hid B5
      have S5 := CASEK.out w5 B5
      obtain ⟨g5', c5, rfl⟩ := Joins.ownsRow_form o5 hln8
      clear o5 g5 B5
      refine hK.out _ _ S5 (fun hHeld => ?_)
      try simp only [Act.put, List.setIfInBounds_toArray, List.set_cons_zero, List.set_cons_succ]
      refine held_take 15 (.slice (some ⟨g5', 0, none⟩) ln2 c5) rfl (by kernel_rfl) (by kernel_rfl) (by kernel_rfl) (fun _ _ _ h => h) (by rfl) (by intro w' hS; go_simp) (by assumption) ?_
      try simp only [Act.put, List.setIfInBounds_toArray, List.set_cons_zero, List.set_cons_succ]
      refine wpAnyH_done (by kernel_rfl) ?_ _
      clear y2 y4 y5 y6 y7 y8
      go_wp2_with fail
      go_roundw
      case rel => exact ⟨r + 1, q + side, ln2, _, rfl, by omega, by go_num, N1, N2, o5', hB5⟩
      case measure => (simp [intOf]; try omega)
    · have hrE : r = R := by omega
      have hqc : q = cl := by rw [hq.out, hrE, HCL.out]
      have hlM : ln = M := by rw [hln.out, hrE, HM.out]
      have hlt : ¬ (q : Int) < (cl : Int) := by omega
      rw [hrE, hlM, ← HGL.out] at hrow
      obtain ⟨g6, c6, e6⟩ := Joins.ownsRow_form hrow.out (by rw [← HM.out]; exact Nat.mul_pos HRR.out hn2)
      subst e6
      have kr := Lib.hid (k9.out.trans (hbr.out.mono k9.out.size))
      have br := Lib.hid (b9.out.trans (hbr.out.mono b9.out.size))
      have WI := Lib.hid (row_ints hrow.out (by omega) HLF.out)
      have YS := Lib.hid (IS.out.kept kr.out)
      have YC := Lib.hid (IC.out.kept kr.out)
      have ZS := Lib.hid (I49.out.kept hbr.out)
      obtain ⟨l0, l1, -, -⟩ := (JY.out.kept kr.out).see
      have SAM := fun m => same_any Y kk yc os A4 kk c4 os (wr.drewN m) (YS.out.kept (below_drewN' (Below.refl _ _) m)) (ZS.out.kept (below_drewN' (Below.refl _ _) m))
      have SAM1 := same_any Y kk yc os A4 kk c4 os wr YS.out ZS.out
      rw [sameL_self] at SAM1
      have SAM2 := Lib.hid SAM1
      have SME := Lib.hid (fun m => same8_any Y' M yc' L (some ⟨g6, 0, none⟩) c6 (wr.drewN m) (YC.out.kept (below_drewN' (Below.refl _ _) m)) (WI.out.kept (below_drewN' (Below.refl _ _) m)))
      have JK := Lib.hid (fun m => ((JY.out.kept kr.out).kept (below_drewN' (Below.refl _ _) m)).see)
      clear SAM SAM1 hrow hrE hqc hlM hq hln
      go_wp2_with fail
      refine SAM2.out.mono ?_
      rintro e wu ⟨rfl, m, rfl⟩
      obtain ⟨m0, m1, -, -⟩ := JK.out m
      go_wp2_with fail
      refine (SME.out m).mono ?_
      rintro e wu ⟨rfl, m2, rfl⟩
      have bz := Lib.hid (below_drewN' br.out (m + m2))
      go_wp2_with fail
      refine (awake08_any _).mono ?_
      rintro e wz ⟨rfl, hbz⟩
      go_wp2_with fail
      go_ret
      exact ⟨rfl, bz.out.trans (hbz.mono bz.out.size)⟩

theorem poolGoes_walk (kd : Int) (x G : TV) (wd st : Int) (w : World) (hx : x.At w ∧ x.Cap ∧ x.CapS) (hG : G.At w ∧ G.Cap ∧ G.CapS) :
    Calls Try.prog 4 #[.agg #[.int .i64 kd, .slice x.sa x.sl x.sc, .slice x.ca x.cl x.cc, .slice G.sa G.sl G.sc, .slice G.ca G.cl G.cc, .int .i64 wd, .int .i64 st]] w fun e w' => e = .returned (.bool true) ∧ Below w.heap.size w w' := by
  cases hs : small8 x G
  · exact poolGoes_big kd x G wd st w hs
  · by_cases hE : kindE kd x.ss x.cl wd st = 0
    · exact poolGoes_ok kd x G wd st w ⟨hx.1, hx.2.1⟩ hs hE
    · exact poolGoes_bad kd x G wd st w hx.1 hs hE
end Go.Proofs.Ytdimpgojamhakaa

