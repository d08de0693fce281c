/-
  The walk of the statement PointGoes.
-/
import Derived.Test.YtilocmdanjekhaaAwake05
namespace Go.Proofs.Ytilocmdanjekhaa
open Go.RowKit
set_option linter.unusedVariables false
set_option linter.unusedSimpArgs false

theorem flipN5 {P : Program} {f : FuncId} {args : Array Value} {w : World} {n : Nat} {v : Value} (h : Calls P f args (w.drewN n) fun e w' => e = .returned v ∧ ∃ m, w' = (w.drewN n).drewN m) :
    Calls P f args (w.drewN n) fun e w' => e = .returned v ∧ ∃ m, w' = w.drewN m :=
  h.mono fun _ _ ⟨he, m, hm⟩ => ⟨he, n + m, by rw [hm, World.drewN_drewN]⟩
theorem sameL_refl5 (l : List Int) : sameL l l = true := by simp [sameL]
theorem small_at {ts : List TV} (h : smallG ts = true) {j : Nat} {t : TV} (ht : ts[j]? = some t) : t.sl ≤ 800 ∧ t.cl ≤ 800 := by
  unfold smallG at h
  have := wts_mem (List.mem_of_getElem? ht)
  have := of_decide_eq_true h
  omega

set_option maxRecDepth 100000 in
set_option maxHeartbeats 4000000 in
theorem goes_long (kind k : Int) (a : Option Addr) (len cap : Nat) (ts : List TV) (w : World) (h : GsAt w a len ts) (hs : smallG ts = false) :
    Calls Try.prog 3 #[.int .i64 kind, .int .i64 k, .slice a len cap] w fun e w' => e = .returned (.bool true) ∧ Below w.heap.size w w' := by
  have C := small_any a len cap ts w h
  rw [hs] at C
  have C1 := Lib.hid C
  clear h C hs
  go_enter Try.func3, Try.ntmps3
  go_wp2_with fail
  refine C1.out.mono ?_
  rintro e w1 ⟨rfl, hb1⟩
  go_wp2_with fail
  refine (awake05_any _).mono ?_
  rintro e w2 ⟨rfl, hb2⟩
  go_wp2_with fail
  go_ret
  exact ⟨rfl, hb1.trans (hb2.mono hb1.size)⟩

set_option maxRecDepth 100000 in
set_option maxHeartbeats 4000000 in
theorem goes_wrong (kind k : Int) (a : Option Addr) (len cap : Nat) (ts : List TV) (w : World) (h : GsAt w a len ts) (hs : smallG ts = true) (hE : ¬ faultE kind ts = 0) :
    Calls Try.prog 3 #[.int .i64 kind, .int .i64 k, .slice a len cap] w fun e w' => e = .returned (.bool true) ∧ Below w.heap.size w w' := by
  have C := small_any a len cap ts w h
  rw [hs] at C
  have C1 := Lib.hid C
  have G := fun w1 (hb : Below w.heap.size w w1) => good_any kind a len cap ts w1 (h.kept hb)
  have P := fun w1 (hb : Below w.heap.size w w1) => pgo_no kind k a len cap ts w1 (h.kept hb) hE
  obtain ⟨x, hx⟩ : ∃ x, faultE kind ts = x := ⟨_, rfl⟩
  rw [hx] at hE
  simp only [hx] at G P
  have G1 := Lib.hid G
  have P1 := Lib.hid P
  have hx0 : (x == 0) = false := beq_eq_false_iff_ne.2 hE
  clear h C hs G P hx
  go_enter Try.func3, Try.ntmps3
  go_wp2_with fail
  refine C1.out.mono ?_
  rintro e w1 ⟨rfl, hb1⟩
  go_wp2_with fail
  refine (P1.out w1 hb1).mono ?_
  rintro e w2 ⟨rfl, hb2⟩
  obtain ⟨w3, hw3, J, x3, n3⟩ := grid_box w2 (.slice none 0 0) (.slice none 0 0)
  have b2 := hb1.trans (hb2.mono hb1.size)
  have b3 := Lib.hid (b2.trans (x3.out.mono b2.size))
  go_upto_region 4 with (fail)
  rw [hw3.out]
  go_wp2_with fail
  refine (G1.out w3 b3.out).mono ?_
  rintro e w4 ⟨rfl, hb4⟩
  obtain ⟨j0, j1, -, -⟩ := (J.out.kept hb4).see
  have b4 := Lib.hid (b3.out.trans (hb4.mono b3.out.size))
  go_wp2_with fail
  refine (awake05_any _).mono ?_
  rintro e w5 ⟨rfl, hb5⟩
  go_wp2_with fail
  go_ret
  exact ⟨rfl, b4.out.trans (hb5.mono b4.out.size)⟩

set_option maxRecDepth 100000 in
set_option maxHeartbeats 8000000 in
theorem goes_ok (kind k : Int) (a : Option Addr) (len cap : Nat) (ts : List TV) (w : World) (h : GsAt w a len ts) (hs : smallG ts = true) (hE : faultE kind ts = 0) (hk1 : -9223372036854775808 ≤ k) (hk2 : k ≤ 9223372036854775807) :
    Calls Try.prog 3 #[.int .i64 kind, .int .i64 k, .slice a len cap] w fun e w' => e = .returned (.bool true) ∧ Below w.heap.size w w' := by
  have C := small_any a len cap ts w h
  rw [hs] at C
  have C1 := Lib.hid C
  obtain ⟨g1, g2, g3⟩ := fault_good hE
  have h0 : 0 < len := by
    have := h.1
    rcases insN_cases kind with ⟨e, -⟩ | ⟨e, -⟩ | ⟨e, -⟩ <;> omega
  obtain ⟨t, b, off, ht, rfl, c0, c1, hAt⟩ := h.at h0
  obtain ⟨r1, r2⟩ := okTs_at g3 ht
  obtain ⟨hsl, hcl⟩ := small_at hs ht
  have hcl0 := rightT_pos5 r1
  have G := fun w1 (hb : Below w.heap.size w w1) => good_any kind (some ⟨b, off, none⟩) len cap ts w1 (h.kept hb)
  simp only [hE] at G
  have G1 := Lib.hid G
  have P1 := Lib.hid (fun w1 (hb : Below w.heap.size w w1) => pgo_ok kind k (some ⟨b, off, none⟩) len cap ts w1 (h.kept hb) hE t ht (by omega) hk1 hk2)
  have OT := Lib.hid (fun j (hj : j < t.cl) w1 (hb : Below w.heap.size w w1) => (show Calls Try.prog 13 #[.slice (some ⟨b, off, none⟩) len cap, .int .i64 j] w1 fun e w' => e = .returned (.int .i64 (otherN ts j)) ∧ w1 = w' by
    have := other_any (some ⟨b, off, none⟩) len cap ts j w1 (h.kept hb) (by omega)
    rw [otherM_eq (fun u hu => by rw [okTs_len g3 ht hu]; exact hj)] at this
    exact this))
  have HB := Lib.hid (fun j => otherN_bounds h j)
  have F0 := Lib.hid (fun w1 (hb : Below w.heap.size w w1) => cell_later hb c0)
  have F1 := Lib.hid (fun w1 (hb : Below w.heap.size w w1) => cell_later hb c1)
  simp only [Nat.zero_mul, Nat.add_zero] at F0 F1
  have HA := Lib.hid (fun w1 (hb : Below w.heap.size w w1) => hAt.kept hb)
  obtain ⟨bx, ox, ex, hxc⟩ : ∃ bx ox, t.ca = some ⟨bx, ox, none⟩ ∧ ∀ j, j < t.cl → w.cell? ⟨bx, ox + j, none⟩ = some (.int .i64 (t.cs.getD j 0)) := by
    rcases hAt.2.1.2.2.2 with h4 | ⟨bg, og, ha, hc⟩
    · omega
    · exact ⟨bg, og, ha, hc⟩
  have HX := Lib.hid (fun j (hj : j < t.cl) w1 (hb : Below w.heap.size w w1) => cell_later hb (hxc j hj))
  have hfT := Lib.hid hAt.2.1.2.2.1
  have hfS := Lib.hid hAt.1.2.2.1
  have hlT := Lib.hid hAt.2.1.1
  have hk := Lib.hid (And.intro hk1 hk2)
  have hp0 : ¬ len = 0 := by omega
  have hcl' := Lib.hid hcl
  have hsl' := Lib.hid hsl
  have hcl0' := Lib.hid hcl0
  have ex' := Lib.hid ex
  clear h C hs hE g1 g2 g3 r1 r2 ht c0 c1 hAt hk1 hk2 G hxc ex hcl hsl hcl0
  go_enter Try.func3, Try.ntmps3
  go_wp2_with fail
  refine C1.out.mono ?_
  rintro e w1 ⟨rfl, hb1⟩
  go_wp2_with fail
  refine (P1.out w1 hb1).mono ?_
  rintro e w2 ⟨v', rfl, A, c, A', c', rfl, o1, o2, -, hb2⟩
  have iS := row_ints o1 (by have := hsl'.out; omega) hfS.out
  have iC := row_ints o2 (by have := hcl'.out; omega) (goL_fits hfT.out)
  obtain ⟨w3, hw3, J, x3, n3⟩ := grid_box w2 (.slice A t.sl c) (.slice A' t.cl c')
  have b2 := hb1.trans (hb2.mono hb1.size)
  have b3 := Lib.hid (b2.trans (x3.out.mono b2.size))
  have iS3 := Lib.hid (iS.kept x3.out)
  have iC3 := Lib.hid (iC.kept x3.out)
  clear o1 o2 hb2 b2 iS iC C1 P1
  go_upto_region 4 with (fail)
  rw [hw3.out]
  go_wp2_with fail
  refine (G1.out w3 b3.out).mono ?_
  rintro e w4 ⟨rfl, hb4⟩
  have J4 := Lib.hid (J.out.kept hb4)
  have b4 := Lib.hid (b3.out.trans (hb4.mono b3.out.size))
  have iS4 := iS3.out.kept hb4
  have iC4 := Lib.hid (iC3.out.kept hb4)
  obtain ⟨j0, j1, -, -⟩ := J4.out.see
  have f0 := F0.out w4 b4.out
  have f1 := F1.out w4 b4.out
  have kd := fun n => (below_drewN' (Below.refl w4.heap.size w4) n)
  have EQ0 := fun n => equal_any A t.sl c t.ss t.sa t.sl t.sc t.ss (w4.drewN n) (iS4.kept (kd n)) ((HA.out w4 b4.out).1.kept (kd n))
  have EQ := fun n => flipN5 (EQ0 n)
  rw [sameL_refl5] at EQ
  have EQ' := Lib.hid EQ
  clear EQ EQ0 kd iS3 iC3 hb4 iS4 J G1
  go_wp2_with fail
  go_quiet ((go_at_call 11; exact EQ'.out _))
  obtain ⟨W, hW⟩ : ∃ W, w4.drewN nq = W := ⟨_, rfl⟩
  have qW : Below w4.heap.size w4 W := by rw [← hW]; exact below_drewN' (Below.refl _ _) _
  have bW := Lib.hid (b4.out.trans (qW.mono b4.out.size))
  have JW := Lib.hid (J4.out.kept qW)
  have iCW := iC4.out.kept qW
  rw [hW]
  obtain ⟨y, hy⟩ : ∃ y, t.cl = y := ⟨_, rfl⟩
  rw [hy] at iCW JW HX OT hlT hcl' hcl0'
  obtain ⟨ga, oa, rfl, hac⟩ : ∃ ga oa, A' = some ⟨ga, oa, none⟩ ∧ ∀ j, j < y → W.cell? ⟨ga, oa + j, none⟩ = some (.int .i64 ((goL kind k t.cs ts).getD j 0)) := by
    rcases iCW.2.2.2 with h4 | ⟨bg, og, ha, hc⟩
    · have := hcl0'.out; omega
    · exact ⟨bg, og, ha, hc⟩
  have HO := Lib.hid (fun j (hj : j < y) w1 (hb : Below W.heap.size W w1) => (show w1.cell? ⟨ga, oa + j, none⟩ = some (.int .i64 (pcell kind k (t.cs.getD j 0) (otherN ts j))) by
    rw [← goL_get (by rw [hlT.out]; exact hj)]
    exact cell_later hb (hac j hj)))
  have f1W : W.cell? ⟨b, off + 1, none⟩ = some (.slice (some ⟨bx, ox, none⟩) y t.cc) := by rw [← hy, ← ex'.out]; exact F1.out W bW.out
  clear hW qW EQ' J4 iC4 iCW hac f0 f1 b4 j0 j1 F0 F1 HA hfS n3 x3 b3 hw3
  clear hy
  have hy8 : y ≤ 800 := hcl'.out
  go_wp2_with fail
  go_loopw [68] (fun i wr => ∃ j : Nat, j ≤ y ∧ i = .int .i64 j ∧ Hid (Below W.heap.size W wr)) (fun i _ => y - (intOf i).toNat)
  case atStart => exact ⟨0, Nat.zero_le _, rfl, Lib.hid (Below.refl _ _)⟩
  case round =>
    obtain ⟨j, hj, rfl, hbr⟩ := hrel
    have bl := Lib.hid (bW.out.trans (hbr.out.mono bW.out.size))
    by_cases hlt : j < y
    · have hx := HX.out j hlt wr bl.out
      have O1 := OT.out j hlt wr.drew (bl.out.trans (Below.refl _ _).drew)
      obtain ⟨x1, x2⟩ := hfT.out.getD j
      obtain ⟨u1, u2⟩ := HB.out j
      have HOj := HO.out j hlt
      obtain ⟨x, hxx⟩ : ∃ x, t.cs.getD j 0 = x := ⟨_, rfl⟩
      obtain ⟨u, hu⟩ : ∃ u, otherN ts j = u := ⟨_, rfl⟩
      rw [hxx] at hx x1 x2 HOj
      rw [hu] at u1 u2 HOj O1
      have M := Lib.hid (fun w1 => refcell_any kind k x u w1 hk.out.1 hk.out.2 x1 x2 u1 u2)
      obtain ⟨p, hp⟩ : ∃ p, pcell kind k x u = p := ⟨_, rfl⟩
      rw [hp] at HOj M
      have O1' := Lib.hid O1
      have SK := Lib.hid (fun w1 (hb : Below wr.heap.size wr w1) => (⟨(JW.out.kept (hbr.out.trans (hb.mono hbr.out.size))).see.2.1, HOj w1 (hbr.out.trans (hb.mono hbr.out.size))⟩ : w1.cell? ⟨w2.heap.size, 1, none⟩ = some (.slice (some ⟨ga, oa, none⟩) y c') ∧ w1.cell? ⟨ga, oa + j, none⟩ = some (.int .i64 p)))
      have t1 : Below wr.heap.size wr wr.drew := (Below.refl _ _).drew
      have v0 := SK.out _ (Below.refl _ _)
      have v1 := SK.out _ t1
      have t1' := Lib.hid t1
      clear O1 hxx hu hp x1 x2 u1 u2 HOj t1
      go_wp2_with fail
      go_region_held3 (fun w' => w'.cell? ⟨w2.heap.size, 1, none⟩ = some (.slice (some ⟨ga, oa, none⟩) y c') ∧ w'.cell? ⟨ga, oa + j, none⟩ = some (.int .i64 p))
        (first | exact v0 | exact v1 | exact v2 | go_keep)
        (first
          | (go_at_call 13; refine O1'.out.mono ?_; rintro e w5 ⟨rfl, rfl⟩)
          | (go_at_call 12; refine (M.out _).mono ?_; rintro e w6 ⟨rfl, hb6⟩; have v2 := SK.out w6 (t1'.out.trans (hb6.mono (Nat.le_refl _))); have hb6' := Lib.hid hb6; clear hb6))
      have Q := Lib.hid (hbr.out.trans ((t1'.out.trans (hb6'.out.mono (Nat.le_refl _))).mono hbr.out.size))
      go_wp2_with fail
      go_roundw
      case rel => exact ⟨j + 1, by omega, by go_num, Q⟩
      case measure => (simp [intOf]; try omega)
    · obtain rfl : j = y := by omega
      go_wp2_with fail
      refine (awake05_any _).mono ?_
      rintro e w9 ⟨rfl, hb9⟩
      go_wp2_with fail
      go_ret
      exact ⟨rfl, bl.out.trans (hb9.mono bl.out.size)⟩

theorem pointGoes_walk (kind k : Int) (a : Option Addr) (len cap : Nat) (ts : List TV) (w : World) (b0 : -9223372036854775808 ≤ kind) (c0 : kind ≤ 9223372036854775807) (hk1 : -9223372036854775808 ≤ k) (hk2 : k ≤ 9223372036854775807) (h : GsAt w a len ts) :
    Calls Try.prog 3 #[.int .i64 kind, .int .i64 k, .slice a len cap] w fun e w' => e = .returned (.bool true) ∧ Below w.heap.size w w' := by
  cases hs : smallG ts
  · exact goes_long kind k a len cap ts w h hs
  · by_cases hE : faultE kind ts = 0
    · exact goes_ok kind k a len cap ts w h hs hE hk1 hk2
    · exact goes_wrong kind k a len cap ts w h hs hE
end Go.Proofs.Ytilocmdanjekhaa
