/-
  The walk of the statement ShapeJoins: the shapes are joined.
-/
import Derived.Test.YtieajkpjkhdjeaaShapeJoinsB
import Derived.Deep.RegionHeld3
namespace Go.Proofs.Ytieajkpjkhdjeaa
open Go.RowKit
set_option linter.unusedVariables false
set_option linter.unusedSimpArgs false

theorem set_id (l : List Int) (k : Nat) (hk : k < l.length) : l.set k (l.getD k 0) = l := by
  have e : l.getD k 0 = l[k] := by simp [List.getD, List.getElem?_eq_getElem hk]
  rw [e, List.set_getElem_self]

set_option maxRecDepth 100000 in
set_option maxHeartbeats 4000000 in
theorem joins_ok (a1 : Option Addr) (l1 c1 : Nat) (xs : List Int) (a2 : Option Addr) (c2 : Nat) (ys : List Int) (k : Nat) (fr to : Int) (w : World) (h : IntsAt w a1 l1 xs) (h' : IntsAt w a2 l1 ys) (hlen : ¬ 50 < l1) (b1 : rightS xs = true) (b2 : rightS ys = true) (hk : k < l1) (hs : sameL (xs.set k (ys.getD k 0)) ys = true) (hr : rightS (xs.set k (xs.getD k 0 + ys.getD k 0)) = true) :
    Calls Try.prog 6 #[.agg #[.slice a1 l1 c1, .slice a2 l1 c2, .int .i64 k, .int .i64 fr, .int .i64 to]] w fun e w' => e = .returned (.bool true) ∧ Below w.heap.size w w' := by
  have J0 := JAt.made w (.slice a1 l1 c1) (.slice a2 l1 c2) k fr to 39
  have z0' : Below w.heap.size w (w.alloc (.cells #[.slice a1 l1 c1, .slice a2 l1 c2, .int .i64 k, .int .i64 fr, .int .i64 to] 39)) := (Below.refl _ _).alloc (Nat.le_refl _) _
  obtain ⟨wB, hwB⟩ : ∃ wB, w.alloc (.cells #[.slice a1 l1 c1, .slice a2 l1 c2, .int .i64 k, .int .i64 fr, .int .i64 to] 39) = wB := ⟨_, rfl⟩
  rw [hwB] at J0 z0'
  have J := Lib.hid J0
  have z0 := Lib.hid z0'
  have hwB' := Lib.hid hwB
  clear J0 z0' hwB
  have hB := h.kept z0.out
  have hB' := h'.kept z0.out
  clear h h'
  have C := Lib.hid (join_ok a1 l1 c1 xs a2 c2 ys k wB hB hB' b1 b2 hk hs hr)
  have hBx := Lib.hid hB
  have hBy := Lib.hid hB'
  obtain ⟨i0, hi, hz0, hz1, hz2⟩ := info_parts intsInfo
  have hlr := (rightS_parts b1).2.1
  have hX := Lib.hid (fun j (hj : j < l1) => allR_getD (rightS_parts b1).2.2.1 j (by have := hB.1; omega))
  have hY := Lib.hid (fun j (hj : j < l1) => allR_getD (rightS_parts b2).2.2.1 j (by have := hB'.1; omega))
  have xl := Lib.hid hB.1
  have yl := Lib.hid hB'.1
  have hxy := Lib.hid (show xs.length = ys.length by rw [xl.out, yl.out])
  have l4 : l1 ≤ 4 := by rw [xl.out] at hlr; exact hlr
  clear hlr
  have D1 := Lib.hid (fun w1 (hb : Below wB.heap.size wB w1) => refshape_any a1 l1 c1 xs w1 (hB.kept hb))
  have D2 := Lib.hid (fun w1 (hb : Below wB.heap.size wB w1) => refshape_any a2 l1 c2 ys w1 (hB'.kept hb))
  rw [b1] at D1
  rw [b2] at D2
  have hs' := Lib.hid hs
  have hr' := Lib.hid hr
  clear hr hs
  obtain ⟨b, off, ha1, hc1⟩ : ∃ b off, a1 = some ⟨b, off, none⟩ ∧ ∀ j, j < l1 → wB.cell? ⟨b, off + j, none⟩ = some (.int .i64 (xs.getD j 0)) := by
    rcases hB.2.2.2 with h4 | ⟨b, off, ha, hc⟩
    · omega
    · exact ⟨b, off, ha, hc⟩
  obtain ⟨b', off', ha2, hc2⟩ : ∃ b off, a2 = some ⟨b, off, none⟩ ∧ ∀ j, j < l1 → wB.cell? ⟨b, off + j, none⟩ = some (.int .i64 (ys.getD j 0)) := by
    rcases hB'.2.2.2 with h4 | ⟨b, off, ha, hc⟩
    · omega
    · exact ⟨b, off, ha, hc⟩
  subst ha1 ha2
  have hcx := Lib.hid (fun w1 (hb : Below wB.heap.size wB w1) j hj => cell_later hb (hc1 j hj))
  have hcy := Lib.hid (fun w1 (hb : Below wB.heap.size wB w1) j hj => cell_later hb (hc2 j hj))
  have g0 : decide (0 ≤ (k : Int)) = true := decide_eq_true (by omega)
  have g1 : decide ((k : Int) < (l1 : Int)) = true := decide_eq_true (by omega)
  have g1' : decide (k < l1) = true := decide_eq_true hk
  clear hc1 hc2 hB hB' b1 b2
  go_enter Try.func6, Try.ntmps6
  go_wp2_with fail
  rw [hwB'.out]
  refine C.out.mono ?_
  rintro e w1 ⟨A0, ca, rfl, hoA, hb1⟩
  obtain ⟨j0, j1, j2, j3, j4⟩ := J.out.kept hb1
  have hA := Lib.hid hoA
  clear hoA
  go_wp2_with fail
  refine (D1.out w1 hb1).mono ?_
  rintro e w' ⟨rfl, rfl⟩
  go_wp2_with fail
  refine (D2.out w1 hb1).mono ?_
  rintro e w' ⟨rfl, rfl⟩
  go_wp2_with fail
  clear j0 j1 j2 j3 j4
  go_loopw [5, 7, 84] (fun g v i wr => ∃ j : Nat, j ≤ l1 ∧ i = .int .i64 j ∧ g = .bool (goodB xs ys k j) ∧ wr.ownsRow w1.heap.size 3 1 v j (wantV xs k (xs.getD k 0 + ys.getD k 0) j) ∧ Below w1.heap.size w1 wr) (fun _ _ i _ => l1 - (intOf i).toNat)
  case atStart => exact ⟨0, Nat.zero_le _, rfl, by first | rfl | (unfold goodB; simp), World.ownsRow_nil _ _ _ _, Below.refl _ _⟩
  case round =>
    obtain ⟨j, hj, rfl, rfl, hown, hnx⟩ := hrel
    have hbr : Below wB.heap.size wB wr := hb1.trans (hnx.mono hb1.size)
    obtain ⟨j0, j1, j2, j3, j4⟩ := J.out.kept hbr
    by_cases hlt : j < l1
    · have e1 := hcx.out wr hbr j hlt
      have e2 := hcy.out wr hbr j hlt
      obtain ⟨p1, p2⟩ := hX.out j hlt
      obtain ⟨p3, p4⟩ := hY.out j hlt
      have hs := Lib.hid (wantV_step xs k (xs.getD k 0 + ys.getD k 0) j (by rw [xl.out]; exact hlt))
      by_cases hjk : j = k
      · subst hjk
        have gs := Lib.hid (goodB_k xs ys j hxy.out (by rw [xl.out]; exact hlt))
        rw [set_self xs j _ (by rw [xl.out]; exact hlt)] at hs
        generalize xs.getD j 0 = x at *
        generalize ys.getD j 0 = y at *
        generalize goodB xs ys j j = G at *
        go_wp2_with (at_builtin; refine wpList_append_own _ rfl _ _ 22 rfl w1.heap.size 3 i0 (.int .i64 0) 1 8 Try.underlying22 hi hz0 hz1 hz2 rfl (by decide) _ _ _ rfl (hown.alloc _) ⟨wr.heap.size, 0, none⟩ 1 1 [.int .i64 (x + y)] rfl rfl (one_cell _ _ _) (by intro u hu; simp at hu; subst hu; rfl) (by unfold maxLen; omega) (by omega) (by have := hnx.size; simp; omega) ?_)
        intro v' w2 hown' hgrow _
        have hb := (hnx.alloc hnx.size (.cells #[.int .i64 (x + y)] 3)).grown hgrow (by have := hnx.size; simp; omega) (fun j hj => by have := (hown.lt j hj).1; omega)
        have ho : Hid (w2.ownsRow w1.heap.size 3 1 v' (j + 1) (wantV xs j (x + y) (j + 1))) := by show World.ownsRow _ _ _ _ _ _ _; rw [hs.out]; exact hown'
        clear hown' hgrow hown hnx e1 e2 j0 j1 j2 j3 j4 hs
        go_wp2_with fail
        go_roundw
        case rel => exact ⟨j + 1, by omega, by go_num, by rw [gs.out], ho.out, hb⟩
        case measure => (simp [intOf]; try omega)
      · have d6 : ((j : Int) == (k : Int)) = false := beq_eq_false_iff_ne.2 (by omega)
        have d8 : decide (j = k) = false := decide_eq_false hjk
        rw [set_other xs k j _ hjk] at hs
        by_cases heq : ys.getD j 0 = xs.getD j 0
        · have gs := Lib.hid (goodB_same xs ys k j hxy.out (by rw [xl.out]; exact hlt) hjk heq)
          rw [heq] at e2
          clear heq
          generalize xs.getD j 0 = x at *
          generalize goodB xs ys k j = G at *
          go_wp2_with (at_builtin; refine wpList_append_own _ rfl _ _ 22 rfl w1.heap.size 3 i0 (.int .i64 0) 1 8 Try.underlying22 hi hz0 hz1 hz2 rfl (by decide) _ _ _ rfl (hown.alloc _) ⟨wr.heap.size, 0, none⟩ 1 1 [.int .i64 (x)] rfl rfl (one_cell _ _ _) (by intro u hu; simp at hu; subst hu; rfl) (by unfold maxLen; omega) (by omega) (by have := hnx.size; simp; omega) ?_)
          intro v' w2 hown' hgrow _
          have hb := (hnx.alloc hnx.size (.cells #[.int .i64 (x)] 3)).grown hgrow (by have := hnx.size; simp; omega) (fun j hj => by have := (hown.lt j hj).1; omega)
          have ho : Hid (w2.ownsRow w1.heap.size 3 1 v' (j + 1) (wantV xs k (xs.getD k 0 + ys.getD k 0) (j + 1))) := by show World.ownsRow _ _ _ _ _ _ _; rw [hs.out]; exact hown'
          clear hown' hgrow hown hnx e1 e2 j0 j1 j2 j3 j4 hs
          go_wp2_with fail
          go_roundw
          case rel => exact ⟨j + 1, by omega, by go_num, by rw [gs.out], ho.out, hb⟩
          case measure => (simp [intOf]; try omega)
        · have gs := Lib.hid (goodB_other xs ys k j hxy.out (by rw [xl.out]; exact hlt) hjk heq)
          generalize xs.getD j 0 = x at *
          generalize ys.getD j 0 = y at *
          generalize goodB xs ys k j = G at *
          go_wp2_with (at_builtin; refine wpList_append_own _ rfl _ _ 22 rfl w1.heap.size 3 i0 (.int .i64 0) 1 8 Try.underlying22 hi hz0 hz1 hz2 rfl (by decide) _ _ _ rfl (hown.alloc _) ⟨wr.heap.size, 0, none⟩ 1 1 [.int .i64 (x)] rfl rfl (one_cell _ _ _) (by intro u hu; simp at hu; subst hu; rfl) (by unfold maxLen; omega) (by omega) (by have := hnx.size; simp; omega) ?_)
          intro v' w2 hown' hgrow _
          have hb := (hnx.alloc hnx.size (.cells #[.int .i64 (x)] 3)).grown hgrow (by have := hnx.size; simp; omega) (fun j hj => by have := (hown.lt j hj).1; omega)
          have ho : Hid (w2.ownsRow w1.heap.size 3 1 v' (j + 1) (wantV xs k (xs.getD k 0 + ys.getD k 0) (j + 1))) := by show World.ownsRow _ _ _ _ _ _ _; rw [hs.out]; exact hown'
          clear hown' hgrow hown hnx e1 e2 j0 j1 j2 j3 j4 hs
          go_wp2_with fail
          go_roundw
          case rel => exact ⟨j + 1, by omega, by go_num, by rw [gs.out], ho.out, hb⟩
          case measure => (simp [intOf]; try omega)
    · obtain rfl : j = l1 := by omega
      have gf := goodB_full xs ys k j hxy.out (by rw [xl.out]; omega)
      have wf := wantV_full xs k (xs.getD k 0 + ys.getD k 0) j (by rw [xl.out]; omega)
      rw [gf]
      rw [wf] at hown
      clear gf wf
      rw [hs'.out]
      obtain ⟨x1, x2⟩ := hX.out k hk
      obtain ⟨y1, y2⟩ := hY.out k hk
      have hF : Fits (xs.set k (xs.getD k 0 + ys.getD k 0)) := by
        intro n hn
        rcases List.mem_or_eq_of_mem_set hn with h' | rfl
        · obtain ⟨q, hq, rfl⟩ := List.mem_iff_getElem.1 h'
          have := hX.out q (by rw [← xl.out]; exact hq)
          simp [List.getD, List.getElem?_eq_getElem hq] at this
          omega
        · omega
      obtain ⟨A, cw, rfl, hiw⟩ := own_ints hown (by rw [List.length_set, xl.out]) (by omega) hF
      have hiA0 := row_ints hA.out (by omega) hF
      have R1 := refshape_any A _ cw _ wr hiw
      rw [hr'.out] at R1
      have R2 := Lib.hid R1
      have hw := Lib.hid hiw
      have hj := Lib.hid (fun w3 (hb : Below w1.heap.size w1 w3) => hiA0.kept hb)
      have hwk := Lib.hid (fun w3 (hb : Below wr.heap.size wr w3) => hiw.kept hb)
      obtain ⟨bw, ow, rfl, hcw⟩ : ∃ b off, A = some ⟨b, off, none⟩ ∧ ∀ q, q < j → wr.cell? ⟨b, off + q, none⟩ = some (.int .i64 ((xs.set k (xs.getD k 0 + ys.getD k 0)).getD q 0)) := by
        rcases hiw.2.2.2 with h4 | ⟨b, off, ha, hc⟩
        · omega
        · exact ⟨b, off, ha, hc⟩
      have hck := hcw k hk
      rw [set_self xs k _ (by rw [xl.out]; exact hk)] at hck
      have hcwk := Lib.hid (fun w3 (hb : Below wr.heap.size wr w3) => cell_later hb hck)
      have cx := Lib.hid (fun w3 (hb : Below wB.heap.size wB w3) => hcx.out w3 hb k hk)
      have s1 := Lib.hid (show (xs.set k (xs.getD k 0 + ys.getD k 0)).set k (xs.getD k 0 - 0) = xs by
        rw [List.set_set, Int.sub_zero]
        exact set_id xs k (by rw [xl.out]; exact hk))
      have s2 := Lib.hid (show (xs.set k (xs.getD k 0 + ys.getD k 0)).set k (xs.getD k 0 + ys.getD k 0 - xs.getD k 0) = ys by
        rw [List.set_set, show xs.getD k 0 + ys.getD k 0 - xs.getD k 0 = ys.getD k 0 by omega]
        exact sameL_eq hs'.out)
      have sk := Lib.hid (set_self xs k (xs.getD k 0 + ys.getD k 0) (by rw [xl.out]; exact hk))
      have fx := Lib.hid hBx.out.2.2.1
      have fy := Lib.hid hBy.out.2.2.1
      generalize xs.getD k 0 = x at *
      generalize ys.getD k 0 = y at *
      obtain ⟨zs, hzs⟩ : ∃ zs, xs.set k (x + y) = zs := ⟨_, rfl⟩
      rw [hzs] at s1 s2 sk hw hj hwk hr'
      clear R1 hown hiw hck hcw hs' hA hiA0 hF hX hY hcx hcy hzs
      go_wp2_with fail
      refine R2.out.mono ?_
      rintro e w' ⟨rfl, rfl⟩
      have e1 := cx.out wr hbr
      have t1 : Below wr.heap.size wr wr.drew := (Below.refl _ _).drew
      have t2 : Below w1.heap.size w1 wr.drew := hnx.trans (t1.mono hnx.size)
      have K1 := Lib.hid (cut_ok A0 j ca zs k 0 x wr.drew (hj.out _ t2) hr'.out hk (by omega) (by rw [sk.out]; omega) (by omega))
      rw [s1.out] at K1
      have SK := Lib.hid (fun w' (hb : Below wB.heap.size wB w') => (⟨(J.out.kept hb).2.2.1, (J.out.kept hb).1, cx.out w' hb⟩ : w'.cell? ⟨w.heap.size, 2, none⟩ = some (.int .i64 k) ∧ w'.cell? ⟨w.heap.size, 0, none⟩ = some (.slice (some ⟨b, off, none⟩) j c1) ∧ w'.cell? ⟨b, off + k, none⟩ = some (.int .i64 x)))
      have t12 := Lib.hid t1
      clear t1 t2
      go_wp2_with fail
      go_region_held3 (fun w' => w'.cell? ⟨w.heap.size, 2, none⟩ = some (.int .i64 k) ∧ w'.cell? ⟨w.heap.size, 0, none⟩ = some (.slice (some ⟨b, off, none⟩) j c1) ∧ w'.cell? ⟨b, off + k, none⟩ = some (.int .i64 x))
        (first | go_keep | exact u3)
        ((go_at_call 22; refine K1.out.mono ?_; rintro e w3 ⟨A1, cb, rfl, ho3, hb3⟩; have u3 := SK.out w3 (hbr.trans ((t12.out.trans (hb3.mono (Nat.le_refl _))).mono hbr.size))))
      have t3 : Below wr.heap.size wr w3 := t12.out.trans (hb3.mono t12.out.size)
      have i3 := Lib.hid (row_ints ho3 (by omega) fx.out)
      clear ho3 hb3 K1 e1 j0 j1 j2 j3 j4 u3
      have t4 : Below w1.heap.size w1 w3 := hnx.trans (t3.mono hnx.size)
      have t5 : Below wB.heap.size wB w3 := hbr.trans (t3.mono hbr.size)
      have e1 := cx.out w3 t5
      have e2 := hcwk.out w3 t3
      obtain ⟨j0, j1, j2, j3, j4⟩ := J.out.kept t5
      have t6 : Below w3.heap.size w3 w3.drew := (Below.refl _ _).drew
      have t7 : Below w1.heap.size w1 w3.drew := t4.trans (t6.mono t4.size)
      have K2 := Lib.hid (cut_ok A0 j ca zs k x (x + y) w3.drew (hj.out _ t7) hr'.out hk (by omega) (by rw [sk.out]; omega) (by omega))
      rw [s2.out] at K2
      have t13 := Lib.hid t6
      clear t6 t7
      have SL := Lib.hid (fun w' (hb : Below w3.heap.size w3 w') => (⟨(J.out.kept (t5.trans (hb.mono t5.size))).2.2.1, (J.out.kept (t5.trans (hb.mono t5.size))).1, cx.out w' (t5.trans (hb.mono t5.size)), hcwk.out w' (t3.trans (hb.mono t3.size))⟩ : w'.cell? ⟨w.heap.size, 2, none⟩ = some (.int .i64 k) ∧ w'.cell? ⟨w.heap.size, 0, none⟩ = some (.slice (some ⟨b, off, none⟩) j c1) ∧ w'.cell? ⟨b, off + k, none⟩ = some (.int .i64 x) ∧ w'.cell? ⟨bw, ow + k, none⟩ = some (.int .i64 (x + y))))
      go_wp2_with fail
      go_region_held3 (fun w' => w'.cell? ⟨w.heap.size, 2, none⟩ = some (.int .i64 k) ∧ w'.cell? ⟨w.heap.size, 0, none⟩ = some (.slice (some ⟨b, off, none⟩) j c1) ∧ w'.cell? ⟨b, off + k, none⟩ = some (.int .i64 x) ∧ w'.cell? ⟨bw, ow + k, none⟩ = some (.int .i64 (x + y)))
        (first | go_keep | exact u5)
        ((go_at_call 22; refine K2.out.mono ?_; rintro e w5 ⟨A2, cc, rfl, ho5, hb5⟩; have u5 := SL.out w5 (t13.out.trans (hb5.mono (Nat.le_refl _)))))
      have i5 := Lib.hid (row_ints ho5 (by omega) fy.out)
      have t8 : Below w3.heap.size w3 w5 := t13.out.trans (hb5.mono t13.out.size)
      have t9 : Below w1.heap.size w1 w5 := t4.trans (t8.mono t4.size)
      have t10 : Below wr.heap.size wr w5 := t3.trans (t8.mono t3.size)
      have t11 : Below wB.heap.size wB w5 := t5.trans (t8.mono t5.size)
      clear ho5 hb5 K2 u5 e1 e2 j0 j1 j2 j3 j4
      obtain ⟨j0, j1, j2, j3, j4⟩ := J.out.kept t11
      have L1 := same_any A0 j ca zs (some ⟨bw, ow, none⟩) j cw zs w5 (hj.out w5 t9) (hwk.out w5 t10)
      rw [sameL_self] at L1
      have L2 := Lib.hid L1
      have L3 := fun w6 (hb : Below w5.heap.size w5 w6) => equal_any A1 j cb xs (some ⟨b, off, none⟩) j c1 xs w6 ((i3.out.kept t8).kept hb) (hBx.out.kept (t11.trans (hb.mono t11.size)))
      have L5 := fun w6 (hb : Below w5.heap.size w5 w6) => equal_any A2 j cc ys (some ⟨b', off', none⟩) j c2 ys w6 (i5.out.kept hb) (hBy.out.kept (t11.trans (hb.mono t11.size)))
      rw [sameL_self] at L3 L5
      have L4 := Lib.hid L3
      have L6 := Lib.hid L5
      clear L1 L3 L5
      go_wp2_with fail
      refine L2.out.mono ?_
      rintro e w6 ⟨rfl, n6, hn6⟩
      have u6 : Below w5.heap.size w5 w6 := by rw [hn6]; exact below_drewN' (Below.refl _ _) n6
      clear hn6
      obtain ⟨j0, j1, j2, j3, j4⟩ := J.out.kept (t11.trans (u6.mono t11.size))
      go_wp2_with fail
      refine (L4.out w6 u6).mono ?_
      rintro e w7 ⟨rfl, n7, hn7⟩
      have u7 : Below w5.heap.size w5 w7 := by rw [hn7]; exact below_drewN' u6 n7
      clear hn7 u6
      obtain ⟨j0, j1, j2, j3, j4⟩ := J.out.kept (t11.trans (u7.mono t11.size))
      go_wp2_with fail
      refine (L6.out w7 u7).mono ?_
      rintro e w8 ⟨rfl, n8, hn8⟩
      have u8 : Below wB.heap.size wB w8 := by rw [hn8]; exact below_drewN' (t11.trans (u7.mono t11.size)) n8
      clear hn8 u7
      go_wp2_with fail
      refine (awake03_any _).mono ?_
      rintro e w9 ⟨rfl, hb9⟩
      go_wp2_with fail
      go_ret
      exact ⟨rfl, z0.out.trans ((u8.trans (hb9.mono u8.size)).mono z0.out.size)⟩

end Go.Proofs.Ytieajkpjkhdjeaa
