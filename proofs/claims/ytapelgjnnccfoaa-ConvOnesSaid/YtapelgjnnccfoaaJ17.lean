import Derived.Test.YtapelgjnnccfoaaJ13
import Derived.BigQuiet
/-
  The reference's Run: what goes back to what came in.
-/
namespace Go.Proofs.Ytapelgjnnccfoaa
open Go.RowKit
set_option linter.unusedVariables false
set_option linter.unusedSimpArgs false

set_option maxRecDepth 100000 in
set_option maxHeartbeats 30000000 in
theorem refrun2 (p : PlanN) (sw sx : List Int) (s : Int) (F : PlanFacts sw sx s p) (wa : Option Addr) (wl wc : Nat) (ws : List Int) (xa : Option Addr) (xl xc : Nat) (xs : List Int) (ga : Option Addr) (gc : Nat) (gs : List Int) (w : World) (hw : IntsAt w wa wl ws) (hx : IntsAt w xa xl xs) (N : Nat) (hg : IntsAt w ga N gs) (ewl : p.O * p.C * p.K * p.L = wl) (exl : p.C * p.H * p.W = xl) (eN : p.O * p.m * p.n = N) (hN6 : N ≤ 65536) (hw6 : wl ≤ 65536) (hx6 : xl ≤ 65536) :
    Calls Try.prog 17 #[planV p, .int .i64 2, .slice wa wl wc, .slice xa xl xc, .slice ga N gc] w fun e w' => ∃ A c, e = .returned (.slice A xl c) ∧ IntsAt w' A xl (runP xl (backV2 gs ws) p.all) ∧ Below w.heap.size w w' := by
  obtain ⟨q1, q2, q3, q4, q5, q6, q7, q8, q9, q10⟩ := F.pos
  obtain ⟨t1, t2, t3, t4, t5, t6, t7, t8, t9, t10⟩ := F.small
  have hfit := F.fits
  have W1 := refwin_any p.H p.K p.dn
  have W2 := refwin_any p.W p.L p.rt
  rw [winN_nat (winE_zero (by omega)), ← F.wins.1] at W1
  rw [winN_nat (winE_zero (by omega)), ← F.wins.2] at W2
  have HIN := Lib.hid (fun x hx => PlanN.all_in F.ok (x := x) hx)
  have hwp : 0 < wl := by rw [← ewl]; exact Nat.mul_pos (Nat.mul_pos (Nat.mul_pos (by omega) (by omega)) (by omega)) (by omega)
  have hxp : 0 < xl := by rw [← exl]; exact Nat.mul_pos (Nat.mul_pos (by omega) (by omega)) (by omega)
  have hNp : 0 < N := by rw [← eN]; exact Nat.mul_pos (Nat.mul_pos (by omega) (by omega)) (by omega)
  obtain ⟨wb, wo, rfl, hwc⟩ := ints_cell hw hwp
  obtain ⟨xb, xo, rfl, hxc⟩ := ints_cell hx hxp
  obtain ⟨gb, go, rfl, hgc⟩ := ints_cell hg (by omega)
  have fw := Lib.hid hw.2.2.1
  have fx := Lib.hid hx.2.2.1
  have fg := Lib.hid hg.2.2.1
  obtain ⟨vO, hO⟩ : ∃ k, p.O = k := ⟨_, rfl⟩
  obtain ⟨vC, hC⟩ : ∃ k, p.C = k := ⟨_, rfl⟩
  obtain ⟨vK, hK⟩ : ∃ k, p.K = k := ⟨_, rfl⟩
  obtain ⟨vL, hL⟩ : ∃ k, p.L = k := ⟨_, rfl⟩
  obtain ⟨vH, hH⟩ : ∃ k, p.H = k := ⟨_, rfl⟩
  obtain ⟨vW, hW⟩ : ∃ k, p.W = k := ⟨_, rfl⟩
  obtain ⟨vdn, hdn⟩ : ∃ k, p.dn = k := ⟨_, rfl⟩
  obtain ⟨vrt, hrt⟩ : ∃ k, p.rt = k := ⟨_, rfl⟩
  obtain ⟨vm, hm⟩ : ∃ k, p.m = k := ⟨_, rfl⟩
  obtain ⟨vn, hn⟩ : ∃ k, p.n = k := ⟨_, rfl⟩
  rw [hO, hC, hK, hL] at ewl
  rw [hC, hH, hW] at exl
  rw [hO, hm, hn] at eN
  rw [hH, hK, hdn, hm] at W1
  rw [hW, hL, hrt, hn] at W2
  rw [hO] at q1 t1
  rw [hC] at q2 t2
  rw [hK] at q3 t3
  rw [hL] at q4 t4
  rw [hH] at q5 t5
  rw [hW] at q6 t6
  rw [hdn] at q7 t7
  rw [hrt] at q8 t8
  rw [hm] at q9 t9
  rw [hn] at q10 t10
  obtain ⟨wA, hwA, J, z, nA⟩ := plan_box w #[.int .i64 (vO : Int), .int .i64 (vC : Int), .int .i64 (vK : Int), .int .i64 (vL : Int), .int .i64 (vH : Int), .int .i64 (vW : Int), .int .i64 (vdn : Int), .int .i64 (vrt : Int)]
  have W1' := Lib.hid (fun n => flipW (W1 (wA.drewN n)))
  have W2' := Lib.hid (fun n => flipW (W2 (wA.drewN n)))
  have e0 : wA.cell? ⟨w.heap.size, 0, none⟩ = some (.int .i64 vO) := by rw [cell_of_row wA w.heap.size 0 _ _ _ J.out]; rfl
  have e1 : wA.cell? ⟨w.heap.size, 1, none⟩ = some (.int .i64 vC) := by rw [cell_of_row wA w.heap.size 1 _ _ _ J.out]; rfl
  have e2 : wA.cell? ⟨w.heap.size, 2, none⟩ = some (.int .i64 vK) := by rw [cell_of_row wA w.heap.size 2 _ _ _ J.out]; rfl
  have e3 : wA.cell? ⟨w.heap.size, 3, none⟩ = some (.int .i64 vL) := by rw [cell_of_row wA w.heap.size 3 _ _ _ J.out]; rfl
  have e4 : wA.cell? ⟨w.heap.size, 4, none⟩ = some (.int .i64 vH) := by rw [cell_of_row wA w.heap.size 4 _ _ _ J.out]; rfl
  have e5 : wA.cell? ⟨w.heap.size, 5, none⟩ = some (.int .i64 vW) := by rw [cell_of_row wA w.heap.size 5 _ _ _ J.out]; rfl
  have e6 : wA.cell? ⟨w.heap.size, 6, none⟩ = some (.int .i64 vdn) := by rw [cell_of_row wA w.heap.size 6 _ _ _ J.out]; rfl
  have e7 : wA.cell? ⟨w.heap.size, 7, none⟩ = some (.int .i64 vrt) := by rw [cell_of_row wA w.heap.size 7 _ _ _ J.out]; rfl
  have HO := Lib.hid hO
  have HC := Lib.hid hC
  have HK := Lib.hid hK
  have HL := Lib.hid hL
  have HH := Lib.hid hH
  have HW := Lib.hid hW
  have Hdn := Lib.hid hdn
  have Hrt := Lib.hid hrt
  have Hm := Lib.hid hm
  have Hn := Lib.hid hn
  have EV : planV p = .agg #[.int .i64 (vO : Int), .int .i64 (vC : Int), .int .i64 (vK : Int), .int .i64 (vL : Int), .int .i64 (vH : Int), .int .i64 (vW : Int), .int .i64 (vdn : Int), .int .i64 (vrt : Int)] := by unfold planV; rw [hO, hC, hK, hL, hH, hW, hdn, hrt]
  rw [EV]
  obtain ⟨z1, hz1⟩ : ∃ z, vO * vm = z := ⟨_, rfl⟩
  have z1b : z1 ≤ 1024 * 1024 := by rw [← hz1]; exact Nat.mul_le_mul (by omega) (by omega)
  have y1 := wmul hz1 (by omega)
  have y2 := wmul (a := z1) (b := vn) (q := N) (by rw [← eN, ← hz1]) (by omega)
  have EN := Lib.hid eN
  have EW := Lib.hid ewl
  have EX := Lib.hid exl
  have hmk := i64_made 42 Try.underlying42 xl (by omega)
  have KW := Lib.hid (fun w1 (hb : Below w.heap.size w w1) j (hj : j < wl) => cell_later hb (hwc j hj))
  have KX := Lib.hid (fun w1 (hb : Below w.heap.size w w1) j (hj : j < xl) => cell_later hb (hxc j hj))
  have KG := Lib.hid (fun w1 (hb : Below w.heap.size w w1) j (hj : j < N) => cell_later hb (hgc j hj))
  clear W1 W2 hw hx hg hwc hxc hgc F hfit EV eN ewl exl hz1 hO hC hK hL hH hW hdn hrt hm hn
  go_enter Try.func17, Try.ntmps17
  go_upto_region 1 with (fail)
  rw [hwA.out]
  go_quiet ((first | (go_at_call 31; with_reducible exact Calls.quiet_of_same (W1'.out _)) | (go_at_call 31; with_reducible exact Calls.quiet_of_same (W2'.out _))))
  go_wp2_with fail
  obtain ⟨wB, hwB⟩ : ∃ wB, (wA.drewN nq).alloc (.cells (madeCells #[.int .i64 0] xl) 2) = wB := ⟨_, rfl⟩
  have R0 : RunS wB wA.heap.size xl (List.replicate xl 0) wB := by rw [← hwB]; exact RunS.made (wA.drewN nq) xl hx6
  have bD : Below w.heap.size w (wA.drewN nq) := below_drewN' z.out nq
  have bB : Below w.heap.size w wB := by rw [← hwB]; exact bD.alloc bD.size _
  have zB : Below wA.heap.size wA wB := by rw [← hwB]; exact (below_drewN' (Below.refl _ _) nq).alloc (Nat.le_refl _) _
  have JB : wB.heap[w.heap.size]? = _ := (zB.block _ (by rw [nA.out]; omega)).trans J.out
  have gB : w.heap.size < wA.heap.size := by rw [nA.out]; omega
  have gB2 : wA.heap.size < wB.heap.size := by rw [← hwB]; simp
  rw [hwB]
  obtain ⟨g, hg⟩ : ∃ g, wA.heap.size = g := ⟨_, rfl⟩
  rw [hg] at R0 gB gB2
  simp only [hg]
  have BR := Lib.hid (fun w1 (h : Save (fun k => k = g) wB w1) => (show Below w.heap.size w w1 from h.below bB (by omega) (fun k hk => by omega)))
  have PC := Lib.hid (fun w1 (h : Save (fun k => k = g) wB w1) => (show w1.heap[w.heap.size]? = _ from (h.block _ (Array.getElem?_eq_some_iff.1 JB).1 (by omega)).trans JB))
  have P4 := Lib.hid (fun w1 (h : Save (fun k => k = g) wB w1) => (show w1.cell? ⟨w.heap.size, 0, none⟩ = some (.int .i64 vO) ∧ w1.cell? ⟨w.heap.size, 1, none⟩ = some (.int .i64 vC) ∧ w1.cell? ⟨w.heap.size, 2, none⟩ = some (.int .i64 vK) ∧ w1.cell? ⟨w.heap.size, 3, none⟩ = some (.int .i64 vL) ∧ w1.cell? ⟨w.heap.size, 4, none⟩ = some (.int .i64 vH) ∧ w1.cell? ⟨w.heap.size, 5, none⟩ = some (.int .i64 vW) ∧ w1.cell? ⟨w.heap.size, 6, none⟩ = some (.int .i64 vdn) ∧ w1.cell? ⟨w.heap.size, 7, none⟩ = some (.int .i64 vrt) from by
    have hh := PC.out w1 h
    refine ⟨?_, ?_, ?_, ?_, ?_, ?_, ?_, ?_⟩ <;> (rw [cell_of_row w1 w.heap.size _ _ _ _ hh]; rfl)))
  have R00 := Lib.hid R0
  have MEM := Lib.hid (fun o i j c t u (ho : o < vO) (hi : i < vm) (hj : j < vn) (hc : c < vC) (ht : t < vK) (hu : u < vL) => (show p.a o i j < N ∧ p.b o c t u < wl ∧ p.d i j c t u < xl from by
    have := HIN.out (p.tri o i j c t u) (p.tri_mem (by rw [HO.out]; exact ho) (by rw [Hm.out]; exact hi) (by rw [Hn.out]; exact hj) (by rw [HC.out]; exact hc) (by rw [HK.out]; exact ht) (by rw [HL.out]; exact hu))
    rw [HO.out, Hm.out, Hn.out, HC.out, HK.out, HL.out, HH.out, HW.out, EN.out, EW.out, EX.out] at this
    exact this))
  clear R0 bD bB zB JB gB gB2 hg hwB e0 e1 e2 e3 e4 e5 e6 e7 y1 y2 hmk W1' W2' z1b
  go_loopw [15] (fun v wr => ∃ o : Nat, o ≤ vO ∧ v = .int .i64 o ∧ Hid (RunS wB g xl (runP xl (backV2 gs ws) (p.pre o 0 0 0 0 0)) wr)) (fun v _ => vO - (intOf v).toNat)
  case atStart => exact ⟨0, Nat.zero_le _, rfl, Lib.hid (by rw [PlanN.pre_start]; exact R00.out)⟩
  case round =>
    obtain ⟨o, ho, rfl, hS⟩ := hrel
    obtain ⟨p0, p1, p2, p3, p4, p5, p6, p7⟩ := P4.out wr hS.out.2
    by_cases hol : o < vO
    · go_wp2_with fail
      go_loopw [16] (fun v wr => ∃ i : Nat, i ≤ vm ∧ v = .int .i64 i ∧ Hid (RunS wB g xl (runP xl (backV2 gs ws) (p.pre o i 0 0 0 0)) wr)) (fun v _ => vm - (intOf v).toNat)
      case atStart => exact ⟨0, Nat.zero_le _, rfl, hS⟩
      case round =>
        clear hS p0 p1 p2 p3 p4 p5 p6 p7
        obtain ⟨i, hi, rfl, hS⟩ := hrel
        obtain ⟨p0, p1, p2, p3, p4, p5, p6, p7⟩ := P4.out wr hS.out.2
        by_cases hil : i < vm
        · go_wp2_with fail
          go_loopw [17] (fun v wr => ∃ j : Nat, j ≤ vn ∧ v = .int .i64 j ∧ Hid (RunS wB g xl (runP xl (backV2 gs ws) (p.pre o i j 0 0 0)) wr)) (fun v _ => vn - (intOf v).toNat)
          case atStart => exact ⟨0, Nat.zero_le _, rfl, hS⟩
          case round =>
            clear hS p0 p1 p2 p3 p4 p5 p6 p7
            obtain ⟨j, hj, rfl, hS⟩ := hrel
            obtain ⟨p0, p1, p2, p3, p4, p5, p6, p7⟩ := P4.out wr hS.out.2
            by_cases hjl : j < vn
            · obtain ⟨za, hza⟩ : ∃ z, o * vm = z := ⟨_, rfl⟩
              have za1 : za ≤ 1024 * 1024 := by rw [← hza]; exact Nat.mul_le_mul (by omega) (by omega)
              have x1 := wmul hza (by omega)
              obtain ⟨zb, hzb⟩ : ∃ z, za + i = z := ⟨_, rfl⟩
              have x2 := wadd hzb (by omega)
              obtain ⟨zc, hzc⟩ : ∃ z, zb * vn = z := ⟨_, rfl⟩
              have zc1 : zc ≤ 2097152 * 1024 := by rw [← hzc]; exact Nat.mul_le_mul (by omega) (by omega)
              have x3 := wmul hzc (by omega)
              obtain ⟨a, ha⟩ : ∃ z, zc + j = z := ⟨_, rfl⟩
              have x4 := wadd ha (by omega)
              have EA : Hid (p.a o i j = a) := Lib.hid (by unfold PlanN.a; rw [Hm.out, Hn.out, hza, hzb, hzc, ha])
              clear hza hzb hzc ha za1 zc1
              go_wp2_with fail
              clear x1 x2 x3 x4
              go_loopw [19] (fun v wr => ∃ c : Nat, c ≤ vC ∧ v = .int .i64 c ∧ Hid (RunS wB g xl (runP xl (backV2 gs ws) (p.pre o i j c 0 0)) wr)) (fun v _ => vC - (intOf v).toNat)
              case atStart => exact ⟨0, Nat.zero_le _, rfl, hS⟩
              case round =>
                clear hS p0 p1 p2 p3 p4 p5 p6 p7
                obtain ⟨c, hc, rfl, hS⟩ := hrel
                obtain ⟨p0, p1, p2, p3, p4, p5, p6, p7⟩ := P4.out wr hS.out.2
                by_cases hcl : c < vC
                · go_wp2_with fail
                  go_loopw [20] (fun v wr => ∃ t : Nat, t ≤ vK ∧ v = .int .i64 t ∧ Hid (RunS wB g xl (runP xl (backV2 gs ws) (p.pre o i j c t 0)) wr)) (fun v _ => vK - (intOf v).toNat)
                  case atStart => exact ⟨0, Nat.zero_le _, rfl, hS⟩
                  case round =>
                    clear hS p0 p1 p2 p3 p4 p5 p6 p7
                    obtain ⟨t, ht, rfl, hS⟩ := hrel
                    obtain ⟨p0, p1, p2, p3, p4, p5, p6, p7⟩ := P4.out wr hS.out.2
                    by_cases htl : t < vK
                    · go_wp2_with fail
                      go_loopw [21] (fun v wr => ∃ u : Nat, u ≤ vL ∧ v = .int .i64 u ∧ Hid (RunS wB g xl (runP xl (backV2 gs ws) (p.pre o i j c t u)) wr)) (fun v _ => vL - (intOf v).toNat)
                      case atStart => exact ⟨0, Nat.zero_le _, rfl, hS⟩
                      case round =>
                        clear hS p0 p1 p2 p3 p4 p5 p6 p7
                        obtain ⟨u, hu, rfl, hS⟩ := hrel
                        obtain ⟨p0, p1, p2, p3, p4, p5, p6, p7⟩ := P4.out wr hS.out.2
                        by_cases hul : u < vL
                        · obtain ⟨mA, mB, mD⟩ := MEM.out o i j c t u hol hil hjl hcl htl hul
                          rw [EA.out] at mA
                          obtain ⟨ba, hba⟩ : ∃ z, o * vC = z := ⟨_, rfl⟩
                          have ba1 : ba ≤ 1024 * 1024 := by rw [← hba]; exact Nat.mul_le_mul (by omega) (by omega)
                          have x1 := wmul hba (by omega)
                          obtain ⟨bb, hbb⟩ : ∃ z, ba + c = z := ⟨_, rfl⟩
                          have x2 := wadd hbb (by omega)
                          obtain ⟨bc, hbc⟩ : ∃ z, bb * vK = z := ⟨_, rfl⟩
                          have bc1 : bc ≤ 2097152 * 1024 := by rw [← hbc]; exact Nat.mul_le_mul (by omega) (by omega)
                          have x3 := wmul hbc (by omega)
                          obtain ⟨bd, hbd⟩ : ∃ z, bc + t = z := ⟨_, rfl⟩
                          have x4 := wadd hbd (by omega)
                          obtain ⟨be, hbe⟩ : ∃ z, bd * vL = z := ⟨_, rfl⟩
                          have be1 : be ≤ 4294967296 * 1024 := by rw [← hbe]; exact Nat.mul_le_mul (by omega) (by omega)
                          have x5 := wmul hbe (by omega)
                          obtain ⟨b, hb_⟩ : ∃ z, be + u = z := ⟨_, rfl⟩
                          have x6 := wadd hb_ (by omega)
                          have EB : p.b o c t u = b := by unfold PlanN.b; rw [HC.out, HK.out, HL.out, hba, hbb, hbc, hbd, hbe, hb_]
                          obtain ⟨da, hda⟩ : ∃ z, c * vH = z := ⟨_, rfl⟩
                          have da1 : da ≤ 1024 * 1024 := by rw [← hda]; exact Nat.mul_le_mul (by omega) (by omega)
                          have x7 := wmul hda (by omega)
                          obtain ⟨db, hdb⟩ : ∃ z, i * vdn = z := ⟨_, rfl⟩
                          have db1 : db ≤ 1024 * 1024 := by rw [← hdb]; exact Nat.mul_le_mul (by omega) (by omega)
                          have x8 := wmul hdb (by omega)
                          obtain ⟨dc, hdc⟩ : ∃ z, da + db = z := ⟨_, rfl⟩
                          have x9 := wadd hdc (by omega)
                          obtain ⟨dd, hdd⟩ : ∃ z, dc + t = z := ⟨_, rfl⟩
                          have x10 := wadd hdd (by omega)
                          obtain ⟨de, hde⟩ : ∃ z, dd * vW = z := ⟨_, rfl⟩
                          have de1 : de ≤ 4294967296 * 1024 := by rw [← hde]; exact Nat.mul_le_mul (by omega) (by omega)
                          have x11 := wmul hde (by omega)
                          obtain ⟨df, hdf⟩ : ∃ z, j * vrt = z := ⟨_, rfl⟩
                          have df1 : df ≤ 1024 * 1024 := by rw [← hdf]; exact Nat.mul_le_mul (by omega) (by omega)
                          have x12 := wmul hdf (by omega)
                          obtain ⟨dg, hdg⟩ : ∃ z, de + df = z := ⟨_, rfl⟩
                          have x13 := wadd hdg (by omega)
                          obtain ⟨d, hd_⟩ : ∃ z, dg + u = z := ⟨_, rfl⟩
                          have x14 := wadd hd_ (by omega)
                          have ED : p.d i j c t u = d := by unfold PlanN.d; rw [HH.out, Hdn.out, HW.out, Hrt.out, hda, hdb, hdc, hdd, hde, hdf, hdg, hd_]
                          rw [EB] at mB
                          rw [ED] at mD
                          have TR : Hid (p.tri o i j c t u = (a, b, d)) := Lib.hid (by unfold PlanN.tri; rw [EA.out, EB, ED])
                          obtain ⟨y, hy⟩ : ∃ y, (runP xl (backV2 gs ws) (p.pre o i j c t u)).getD d 0 = y := ⟨_, rfl⟩
                          obtain ⟨f1, hf1⟩ : ∃ y, gs.getD a 0 = y := ⟨_, rfl⟩
                          obtain ⟨f2, hf2⟩ : ∃ y, ws.getD b 0 = y := ⟨_, rfl⟩
                          have yb := (runP_fits xl (backV2 gs ws) (p.pre o i j c t u)).getD d
                          have f1b := fg.out.getD a
                          have f2b := fw.out.getD b
                          have BW := BR.out wr hS.out.2
                          have k1 := KG.out wr BW a (by omega)
                          have k2 := KW.out wr BW b (by omega)
                          have SKF : Hid (∀ w', Save (fun k => k = g) wB w' → w'.cell? ⟨gb, go + a, none⟩ = some (.int .i64 f1) ∧ w'.cell? ⟨wb, wo + b, none⟩ = some (.int .i64 f2)) := Lib.hid (fun w' h => by
                            have q1 := KG.out w' (BR.out w' h) a (by omega)
                            have q2 := KW.out w' (BR.out w' h) b (by omega)
                            rw [hf1] at q1
                            rw [hf2] at q2
                            exact ⟨q1, q2⟩)
                          rw [hy] at yb
                          rw [hf1] at f1b k1
                          rw [hf2] at f2b k2
                          have pb := mulF_bounds f1 f2
                          have MM := fun V => refmul_any f1 f2 V f1b.1 f1b.2 f2b.1 f2b.2
                          obtain ⟨pm, hpm⟩ : ∃ p, mulF f1 f2 = p := ⟨_, rfl⟩
                          simp only [hpm] at MM
                          rw [hpm] at pb
                          have AA := fun V => refadd_any y pm V yb.1 yb.2 pb.1 pb.2
                          obtain ⟨q, hq⟩ : ∃ q, sat (y + pm) = q := ⟨_, rfl⟩
                          simp only [hq] at AA
                          have MUL := Lib.hid MM
                          have ADD := Lib.hid AA
                          have NX : Hid (∀ w', RunS wB g xl (runP xl (backV2 gs ws) (p.pre o i j c t u)) w' → RunS wB g xl (runP xl (backV2 gs ws) (p.pre o i j c t (u + 1))) (w'.setCell ⟨g, d, none⟩ (.int .i64 q))) := Lib.hid (fun w' h => by
                            have : runP xl (backV2 gs ws) (p.pre o i j c t (u + 1)) = (runP xl (backV2 gs ws) (p.pre o i j c t u)).set d q := by
                              rw [PlanN.pre_u, runP_snoc, TR.out]
                              show addAt (runP xl (backV2 gs ws) (p.pre o i j c t u)) d (mulF (gs.getD a 0) (ws.getD b 0)) = _
                              unfold addAt
                              rw [hy, hf1, hf2, hpm, hq]
                            rw [this]
                            exact h.set d q)
                          have CG : Hid (∀ w', RunS wB g xl (runP xl (backV2 gs ws) (p.pre o i j c t u)) w' → w'.cell? ⟨g, d, none⟩ = some (.int .i64 y) ∧ w'.frozen? ⟨g, d, none⟩ = false) := Lib.hid (fun w' h => by
                            have := h.cell (j := d) (by omega)
                            rw [hy] at this
                            exact this)
                          have hS1 := Lib.hid (hS.out.later (Below.refl _ _).drew)
                          obtain ⟨cg, fg_⟩ := CG.out wr hS.out
                          clear hba hbb hbc hbd hbe hb_ hda hdb hdc hdd hde hdf hdg hd_ ba1 bc1 be1 da1 db1 de1 df1 EB ED hy hf1 hf2 hpm hq yb f1b f2b pb MM AA k1 k2
                          go_upto_region 34 with (fail)
                          clear x1 x2 x3 x4 x5 x6 x7 x8 x9 x10 x11 x12 x13 x14 p0 p1 p2 p3 p4 p5 p6 p7
                          refine wp_region_held_drew (S := fun w' => w'.cell? ⟨gb, go + a, none⟩ = some (.int .i64 f1) ∧ w'.cell? ⟨wb, wo + b, none⟩ = some (.int .i64 f2)) (by kernel_rfl) (SKF.out _ hS1.out.2) (fun hHeld => ?_)
                          refine held_take 0 (.slice (some ⟨g, 0, none⟩) xl xl) rfl (by kernel_rfl) (by kernel_rfl) (by kernel_rfl) (fun _ _ _ h => h) (by rfl) (by intro w' hS; go_simp) (by assumption) ?_
                          try simp only [Act.put, List.setIfInBounds_toArray, List.set_cons_zero, List.set_cons_succ]
                          refine held_take 1 (.int .i64 (d : Int)) rfl (by kernel_rfl) (by kernel_rfl) (by kernel_rfl) (fun _ _ _ h => h) (by rfl) (by intro w' hS; go_simp) (by assumption) ?_
                          try simp only [Act.put, List.setIfInBounds_toArray, List.set_cons_zero, List.set_cons_succ]
                          refine held_take 2 (.slice (some ⟨g, 0, none⟩) xl xl) rfl (by kernel_rfl) (by kernel_rfl) (by kernel_rfl) (fun _ _ _ h => h) (by rfl) (by intro w' hS; go_simp) (by assumption) ?_
                          try simp only [Act.put, List.setIfInBounds_toArray, List.set_cons_zero, List.set_cons_succ]
                          refine held_take 3 (.int .i64 (d : Int)) rfl (by kernel_rfl) (by kernel_rfl) (by kernel_rfl) (fun _ _ _ h => h) (by rfl) (by intro w' hS; go_simp) (by assumption) ?_
                          try simp only [Act.put, List.setIfInBounds_toArray, List.set_cons_zero, List.set_cons_succ]
                          refine held_take 4 (.pointer (some ⟨g, d, none⟩)) rfl (by kernel_rfl) (by kernel_rfl) (by kernel_rfl) (fun _ _ _ h => h) (by rfl) (by intro w' hS; go_simp) (by assumption) ?_
                          try simp only [Act.put, List.setIfInBounds_toArray, List.set_cons_zero, List.set_cons_succ]
                          refine held_take 6 (.slice (some ⟨gb, go, none⟩) N gc) rfl (by kernel_rfl) (by kernel_rfl) (by kernel_rfl) (fun _ _ _ h => h) (by rfl) (by intro w' hS; go_simp) (by assumption) ?_
                          try simp only [Act.put, List.setIfInBounds_toArray, List.set_cons_zero, List.set_cons_succ]
                          refine held_take 7 (.int .i64 (a : Int)) rfl (by kernel_rfl) (by kernel_rfl) (by kernel_rfl) (fun _ _ _ h => h) (by rfl) (by intro w' hS; go_simp) (by assumption) ?_
                          try simp only [Act.put, List.setIfInBounds_toArray, List.set_cons_zero, List.set_cons_succ]
                          refine held_take 8 (.pointer (some ⟨gb, go + a, none⟩)) rfl (by kernel_rfl) (by kernel_rfl) (by kernel_rfl) (fun _ _ _ h => h) (by rfl) (by intro w' hS; go_simp) (by assumption) ?_
                          try simp only [Act.put, List.setIfInBounds_toArray, List.set_cons_zero, List.set_cons_succ]
                          refine held_take 9 (.int .i64 f1) rfl (by kernel_rfl) (by kernel_rfl) (by kernel_rfl) (fun _ _ _ h => h) (by rfl) (by intro w' hS; go_simp) (by assumption) ?_
                          try simp only [Act.put, List.setIfInBounds_toArray, List.set_cons_zero, List.set_cons_succ]
                          refine held_take 10 (.slice (some ⟨wb, wo, none⟩) wl wc) rfl (by kernel_rfl) (by kernel_rfl) (by kernel_rfl) (fun _ _ _ h => h) (by rfl) (by intro w' hS; go_simp) (by assumption) ?_
                          try simp only [Act.put, List.setIfInBounds_toArray, List.set_cons_zero, List.set_cons_succ]
                          refine held_take 11 (.int .i64 (b : Int)) rfl (by kernel_rfl) (by kernel_rfl) (by kernel_rfl) (fun _ _ _ h => h) (by rfl) (by intro w' hS; go_simp) (by assumption) ?_
                          try simp only [Act.put, List.setIfInBounds_toArray, List.set_cons_zero, List.set_cons_succ]
                          refine held_take 12 (.pointer (some ⟨wb, wo + b, none⟩)) rfl (by kernel_rfl) (by kernel_rfl) (by kernel_rfl) (fun _ _ _ h => h) (by rfl) (by intro w' hS; go_simp) (by assumption) ?_
                          try simp only [Act.put, List.setIfInBounds_toArray, List.set_cons_zero, List.set_cons_succ]
                          refine held_take 13 (.int .i64 f2) rfl (by kernel_rfl) (by kernel_rfl) (by kernel_rfl) (fun _ _ _ h => h) (by rfl) (by intro w' hS; go_simp) (by assumption) ?_
                          try simp only [Act.put, List.setIfInBounds_toArray, List.set_cons_zero, List.set_cons_succ]
                          refine held_two 5 14 (by kernel_rfl) rfl rfl (by rfl) (by rfl) (fun K hK => ?_) (fun K hK => ?_)
                          · go_simp
                            refine hK.out _ _ hHeld (fun hHeld => ?_)
                            try simp only [Act.put, List.setIfInBounds_toArray, List.set_cons_zero, List.set_cons_succ]
                            refine held_call 14 (by kernel_rfl) rfl (by rfl) (fun K hK => ?_)
                            go_simp
                            refine (MUL.out _).mono ?_
                            rintro e wq ⟨rfl, hbq⟩
                            have hS3 := Lib.hid (hS1.out.later hbq)
                            clear hbq
                            go_wp2_with fail
                            refine hK.out _ _ (SKF.out _ hS3.out.2) (fun hHeld => ?_)
                            try simp only [Act.put, List.setIfInBounds_toArray, List.set_cons_zero, List.set_cons_succ]
                            refine held_call 15 (by kernel_rfl) rfl (by rfl) (fun K hK => ?_)
                            go_simp
                            refine (ADD.out _).mono ?_
                            rintro e wz ⟨rfl, rfl⟩
                            go_wp2_with fail
                            refine hK.out _ _ hHeld (fun hHeld => ?_)
                            try simp only [Act.put, List.setIfInBounds_toArray, List.set_cons_zero, List.set_cons_succ]
                            refine held_take 16 (.pointer (some ⟨g, d, none⟩)) rfl (by kernel_rfl) (by kernel_rfl) (by kernel_rfl) (fun _ _ _ h => h) (by rfl) (by intro w' hS; go_simp) (by assumption) ?_
                            try simp only [Act.put, List.setIfInBounds_toArray, List.set_cons_zero, List.set_cons_succ]
                            obtain ⟨cg2, fg2⟩ := CG.out _ hS3.out
                            have hS5 := Lib.hid (NX.out _ hS3.out)
                            refine held_call 17 (by kernel_rfl) rfl (by rfl) (fun K hK => ?_)
                            go_simp
                            refine hK.out _ _ (SKF.out _ hS5.out.2) (fun hHeld => ?_)
                            try simp only [Act.put, List.setIfInBounds_toArray, List.set_cons_zero, List.set_cons_succ]
                            refine wpAnyH_done (by kernel_rfl) ?_ _
                            clear cg2 fg2 cg fg_
                            go_wp2_with fail
                            go_roundw
                            case rel => exact ⟨u + 1, by omega, by go_num, hS5⟩
                            case measure => (simp [intOf]; try omega)
                          · go_simp
                            refine (MUL.out _).mono ?_
                            rintro e wq ⟨rfl, hbq⟩
                            have hS3 := Lib.hid (hS1.out.later hbq)
                            clear hbq
                            go_wp2_with fail
                            refine hK.out _ _ (SKF.out _ hS3.out.2) (fun hHeld => ?_)
                            try simp only [Act.put, List.setIfInBounds_toArray, List.set_cons_zero, List.set_cons_succ]
                            obtain ⟨cg3, fg3⟩ := CG.out _ hS3.out
                            refine held_call 5 (by kernel_rfl) rfl (by rfl) (fun K hK => ?_)
                            go_simp
                            refine hK.out _ _ hHeld (fun hHeld => ?_)
                            try simp only [Act.put, List.setIfInBounds_toArray, List.set_cons_zero, List.set_cons_succ]
                            clear cg3 fg3
                            refine held_call 15 (by kernel_rfl) rfl (by rfl) (fun K hK => ?_)
                            go_simp
                            refine (ADD.out _).mono ?_
                            rintro e wz ⟨rfl, rfl⟩
                            go_wp2_with fail
                            refine hK.out _ _ hHeld (fun hHeld => ?_)
                            try simp only [Act.put, List.setIfInBounds_toArray, List.set_cons_zero, List.set_cons_succ]
                            refine held_take 16 (.pointer (some ⟨g, d, none⟩)) rfl (by kernel_rfl) (by kernel_rfl) (by kernel_rfl) (fun _ _ _ h => h) (by rfl) (by intro w' hS; go_simp) (by assumption) ?_
                            try simp only [Act.put, List.setIfInBounds_toArray, List.set_cons_zero, List.set_cons_succ]
                            obtain ⟨cg2, fg2⟩ := CG.out _ hS3.out
                            have hS5 := Lib.hid (NX.out _ hS3.out)
                            refine held_call 17 (by kernel_rfl) rfl (by rfl) (fun K hK => ?_)
                            go_simp
                            refine hK.out _ _ (SKF.out _ hS5.out.2) (fun hHeld => ?_)
                            try simp only [Act.put, List.setIfInBounds_toArray, List.set_cons_zero, List.set_cons_succ]
                            refine wpAnyH_done (by kernel_rfl) ?_ _
                            clear cg2 fg2 cg fg_
                            go_wp2_with fail
                            go_roundw
                            case rel => exact ⟨u + 1, by omega, by go_num, hS5⟩
                            case measure => (simp [intOf]; try omega)
                        · obtain rfl : u = vL := by omega
                          have hS2 : Hid (RunS wB g xl (runP xl (backV2 gs ws) (p.pre o i j c (t + 1) 0)) wr) := Lib.hid (by have := hS.out; rw [show (p.pre o i j c t u) = (p.pre o i j c (t + 1) 0) from by rw [← HL.out]; exact p.pre_t o i j c t] at this; exact this)
                          go_wp2_with fail
                          go_roundw
                          case rel => exact ⟨t + 1, by omega, by go_num, hS2⟩
                          case measure => (simp [intOf]; try omega)
                    · obtain rfl : t = vK := by omega
                      have hS2 : Hid (RunS wB g xl (runP xl (backV2 gs ws) (p.pre o i j (c + 1) 0 0)) wr) := Lib.hid (by have := hS.out; rw [show (p.pre o i j c t 0) = (p.pre o i j (c + 1) 0 0) from by rw [← HK.out]; exact p.pre_c o i j c] at this; exact this)
                      go_wp2_with fail
                      go_roundw
                      case rel => exact ⟨c + 1, by omega, by go_num, hS2⟩
                      case measure => (simp [intOf]; try omega)
                · obtain rfl : c = vC := by omega
                  have hS2 : Hid (RunS wB g xl (runP xl (backV2 gs ws) (p.pre o i (j + 1) 0 0 0)) wr) := Lib.hid (by have := hS.out; rw [show (p.pre o i j c 0 0) = (p.pre o i (j + 1) 0 0 0) from by rw [← HC.out]; exact p.pre_j o i j] at this; exact this)
                  go_wp2_with fail
                  go_roundw
                  case rel => exact ⟨j + 1, by omega, by go_num, hS2⟩
                  case measure => (simp [intOf]; try omega)
            · obtain rfl : j = vn := by omega
              have hS2 : Hid (RunS wB g xl (runP xl (backV2 gs ws) (p.pre o (i + 1) 0 0 0 0)) wr) := Lib.hid (by have := hS.out; rw [show (p.pre o i j 0 0 0) = (p.pre o (i + 1) 0 0 0 0) from by rw [← Hn.out]; exact p.pre_i o i] at this; exact this)
              go_wp2_with fail
              go_roundw
              case rel => exact ⟨i + 1, by omega, by go_num, hS2⟩
              case measure => (simp [intOf]; try omega)
        · obtain rfl : i = vm := by omega
          have hS2 : Hid (RunS wB g xl (runP xl (backV2 gs ws) (p.pre (o + 1) 0 0 0 0 0)) wr) := Lib.hid (by have := hS.out; rw [show (p.pre o i 0 0 0 0) = (p.pre (o + 1) 0 0 0 0 0) from by rw [← Hm.out]; exact p.pre_o o] at this; exact this)
          go_wp2_with fail
          go_roundw
          case rel => exact ⟨o + 1, by omega, by go_num, hS2⟩
          case measure => (simp [intOf]; try omega)
    · obtain rfl : o = vO := by omega
      have hS2 : RunS wB g xl (runP xl (backV2 gs ws) p.all) wr := by have := hS.out; rw [show (p.pre o 0 0 0 0 0) = p.all from by rw [← HO.out]; exact p.pre_end] at this; exact this
      have IF := Lib.hid (And.intro (row_ints hS2.1 (by omega) (runP_fits _ _ _)) (BR.out wr hS2.2))
      clear hS hS2
      go_wp2_with fail
      go_ret
      exact ⟨_, _, rfl, IF.out.1, IF.out.2⟩
end Go.Proofs.Ytapelgjnnccfoaa

