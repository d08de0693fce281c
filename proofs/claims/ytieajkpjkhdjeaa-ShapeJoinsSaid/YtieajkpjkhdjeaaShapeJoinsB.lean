/-
  The walk of the statement ShapeJoins: the sides are there.
-/
import Derived.Test.YtieajkpjkhdjeaaShapeJoinsA
namespace Go.Proofs.Ytieajkpjkhdjeaa
open Go.RowKit
set_option linter.unusedVariables false
set_option linter.unusedSimpArgs false

theorem one_cell (w : World) (x : Value) (t : TypeId) : ∀ j u, [x][j]? = some u → (w.alloc (.cells #[x] t)).cell? ((⟨w.heap.size, 0, none⟩ : Addr).add j) = some u := by
  intro j u hj
  match j, hj with
  | 0, hj => simp at hj; subst hj; simp [Addr.add]

set_option maxRecDepth 100000 in
set_option maxHeartbeats 4000000 in
theorem joins_other (a1 : Option Addr) (l1 c1 : Nat) (xs : List Int) (a2 : Option Addr) (c2 : Nat) (ys : List Int) (k : Nat) (fr to : Int) (w : World) (h : IntsAt w a1 l1 xs) (h' : IntsAt w a2 l1 ys) (hlen : ¬ 50 < l1) (b1 : rightS xs = true) (b2 : rightS ys = true) (hk : k < l1) (hs : sameL (xs.set k (ys.getD k 0)) ys = false) :
    Calls Try.prog 6 #[.agg #[.slice a1 l1 c1, .slice a2 l1 c2, .int .i64 k, .int .i64 fr, .int .i64 to]] w fun e w' => e = .returned (.bool true) ∧ Below w.heap.size w w' := by
  have J0 := JAt.made w (.slice a1 l1 c1) (.slice a2 l1 c2) k fr to 39
  have z0' : Below w.heap.size w (w.alloc (.cells #[.slice a1 l1 c1, .slice a2 l1 c2, .int .i64 k, .int .i64 fr, .int .i64 to] 39)) := (Below.refl _ _).alloc (Nat.le_refl _) _
  obtain ⟨wB, hwB⟩ : ∃ wB, w.alloc (.cells #[.slice a1 l1 c1, .slice a2 l1 c2, .int .i64 k, .int .i64 fr, .int .i64 to] 39) = wB := ⟨_, rfl⟩
  rw [hwB] at J0 z0'
  have J := Lib.hid J0
  have z0 := Lib.hid z0'
  have hwB' := Lib.hid hwB
  clear J0 z0' hwB
  have hB := h.kept z0.out
  have hB' := h'.kept z0.out
  clear h h'
  have C := Lib.hid (join_other a1 l1 c1 xs a2 c2 ys k wB hB hB' b1 b2 hk hs)
  obtain ⟨i0, hi, hz0, hz1, hz2⟩ := info_parts intsInfo
  have hlr := (rightS_parts b1).2.1
  have hX := Lib.hid (fun j (hj : j < l1) => allR_getD (rightS_parts b1).2.2.1 j (by have := hB.1; omega))
  have hY := Lib.hid (fun j (hj : j < l1) => allR_getD (rightS_parts b2).2.2.1 j (by have := hB'.1; omega))
  have xl := Lib.hid hB.1
  have yl := Lib.hid hB'.1
  have hxy := Lib.hid (show xs.length = ys.length by rw [xl.out, yl.out])
  have l4 : l1 ≤ 4 := by rw [xl.out] at hlr; exact hlr
  clear hlr
  have D1 := Lib.hid (fun w1 (hb : Below wB.heap.size wB w1) => refshape_any a1 l1 c1 xs w1 (hB.kept hb))
  have D2 := Lib.hid (fun w1 (hb : Below wB.heap.size wB w1) => refshape_any a2 l1 c2 ys w1 (hB'.kept hb))
  rw [b1] at D1
  rw [b2] at D2
  have hs' := Lib.hid hs
  clear hs
  obtain ⟨b, off, ha1, hc1⟩ : ∃ b off, a1 = some ⟨b, off, none⟩ ∧ ∀ j, j < l1 → wB.cell? ⟨b, off + j, none⟩ = some (.int .i64 (xs.getD j 0)) := by
    rcases hB.2.2.2 with h4 | ⟨b, off, ha, hc⟩
    · omega
    · exact ⟨b, off, ha, hc⟩
  obtain ⟨b', off', ha2, hc2⟩ : ∃ b off, a2 = some ⟨b, off, none⟩ ∧ ∀ j, j < l1 → wB.cell? ⟨b, off + j, none⟩ = some (.int .i64 (ys.getD j 0)) := by
    rcases hB'.2.2.2 with h4 | ⟨b, off, ha, hc⟩
    · omega
    · exact ⟨b, off, ha, hc⟩
  subst ha1 ha2
  have hcx := Lib.hid (fun w1 (hb : Below wB.heap.size wB w1) j hj => cell_later hb (hc1 j hj))
  have hcy := Lib.hid (fun w1 (hb : Below wB.heap.size wB w1) j hj => cell_later hb (hc2 j hj))
  have g0 : decide (0 ≤ (k : Int)) = true := decide_eq_true (by omega)
  have g1 : decide ((k : Int) < (l1 : Int)) = true := decide_eq_true (by omega)
  have g1' : decide (k < l1) = true := decide_eq_true hk
  clear hc1 hc2 hB hB' b1 b2
  go_enter Try.func6, Try.ntmps6
  go_wp2_with fail
  rw [hwB'.out]
  refine C.out.mono ?_
  rintro e w1 ⟨rfl, hb1⟩
  obtain ⟨j0, j1, j2, j3, j4⟩ := J.out.kept hb1
  go_wp2_with fail
  refine (D1.out w1 hb1).mono ?_
  rintro e w' ⟨rfl, rfl⟩
  go_wp2_with fail
  refine (D2.out w1 hb1).mono ?_
  rintro e w' ⟨rfl, rfl⟩
  go_wp2_with fail
  clear j0 j1 j2 j3 j4
  go_loopw [5, 7, 84] (fun g v i wr => ∃ j : Nat, j ≤ l1 ∧ i = .int .i64 j ∧ g = .bool (goodB xs ys k j) ∧ wr.ownsRow w1.heap.size 3 1 v j (wantV xs k (xs.getD k 0 + ys.getD k 0) j) ∧ Below w1.heap.size w1 wr) (fun _ _ i _ => l1 - (intOf i).toNat)
  case atStart => exact ⟨0, Nat.zero_le _, rfl, by first | rfl | (unfold goodB; simp), World.ownsRow_nil _ _ _ _, Below.refl _ _⟩
  case round =>
    obtain ⟨j, hj, rfl, rfl, hown, hnx⟩ := hrel
    have hbr : Below wB.heap.size wB wr := hb1.trans (hnx.mono hb1.size)
    obtain ⟨j0, j1, j2, j3, j4⟩ := J.out.kept hbr
    by_cases hlt : j < l1
    · have e1 := hcx.out wr hbr j hlt
      have e2 := hcy.out wr hbr j hlt
      obtain ⟨p1, p2⟩ := hX.out j hlt
      obtain ⟨p3, p4⟩ := hY.out j hlt
      have hs := Lib.hid (wantV_step xs k (xs.getD k 0 + ys.getD k 0) j (by rw [xl.out]; exact hlt))
      by_cases hjk : j = k
      · subst hjk
        have gs := Lib.hid (goodB_k xs ys j hxy.out (by rw [xl.out]; exact hlt))
        rw [set_self xs j _ (by rw [xl.out]; exact hlt)] at hs
        generalize xs.getD j 0 = x at *
        generalize ys.getD j 0 = y at *
        generalize goodB xs ys j j = G at *
        go_wp2_with (at_builtin; refine wpList_append_own _ rfl _ _ 22 rfl w1.heap.size 3 i0 (.int .i64 0) 1 8 Try.underlying22 hi hz0 hz1 hz2 rfl (by decide) _ _ _ rfl (hown.alloc _) ⟨wr.heap.size, 0, none⟩ 1 1 [.int .i64 (x + y)] rfl rfl (one_cell _ _ _) (by intro u hu; simp at hu; subst hu; rfl) (by unfold maxLen; omega) (by omega) (by have := hnx.size; simp; omega) ?_)
        intro v' w2 hown' hgrow _
        have hb := (hnx.alloc hnx.size (.cells #[.int .i64 (x + y)] 3)).grown hgrow (by have := hnx.size; simp; omega) (fun j hj => by have := (hown.lt j hj).1; omega)
        have ho : Hid (w2.ownsRow w1.heap.size 3 1 v' (j + 1) (wantV xs j (x + y) (j + 1))) := by show World.ownsRow _ _ _ _ _ _ _; rw [hs.out]; exact hown'
        clear hown' hgrow hown hnx e1 e2 j0 j1 j2 j3 j4 hs
        go_wp2_with fail
        go_roundw
        case rel => exact ⟨j + 1, by omega, by go_num, by rw [gs.out], ho.out, hb⟩
        case measure => (simp [intOf]; try omega)
      · have d6 : ((j : Int) == (k : Int)) = false := beq_eq_false_iff_ne.2 (by omega)
        have d8 : decide (j = k) = false := decide_eq_false hjk
        rw [set_other xs k j _ hjk] at hs
        by_cases heq : ys.getD j 0 = xs.getD j 0
        · have gs := Lib.hid (goodB_same xs ys k j hxy.out (by rw [xl.out]; exact hlt) hjk heq)
          rw [heq] at e2
          clear heq
          generalize xs.getD j 0 = x at *
          generalize goodB xs ys k j = G at *
          go_wp2_with (at_builtin; refine wpList_append_own _ rfl _ _ 22 rfl w1.heap.size 3 i0 (.int .i64 0) 1 8 Try.underlying22 hi hz0 hz1 hz2 rfl (by decide) _ _ _ rfl (hown.alloc _) ⟨wr.heap.size, 0, none⟩ 1 1 [.int .i64 (x)] rfl rfl (one_cell _ _ _) (by intro u hu; simp at hu; subst hu; rfl) (by unfold maxLen; omega) (by omega) (by have := hnx.size; simp; omega) ?_)
          intro v' w2 hown' hgrow _
          have hb := (hnx.alloc hnx.size (.cells #[.int .i64 (x)] 3)).grown hgrow (by have := hnx.size; simp; omega) (fun j hj => by have := (hown.lt j hj).1; omega)
          have ho : Hid (w2.ownsRow w1.heap.size 3 1 v' (j + 1) (wantV xs k (xs.getD k 0 + ys.getD k 0) (j + 1))) := by show World.ownsRow _ _ _ _ _ _ _; rw [hs.out]; exact hown'
          clear hown' hgrow hown hnx e1 e2 j0 j1 j2 j3 j4 hs
          go_wp2_with fail
          go_roundw
          case rel => exact ⟨j + 1, by omega, by go_num, by rw [gs.out], ho.out, hb⟩
          case measure => (simp [intOf]; try omega)
        · have gs := Lib.hid (goodB_other xs ys k j hxy.out (by rw [xl.out]; exact hlt) hjk heq)
          generalize xs.getD j 0 = x at *
          generalize ys.getD j 0 = y at *
          generalize goodB xs ys k j = G at *
          go_wp2_with (at_builtin; refine wpList_append_own _ rfl _ _ 22 rfl w1.heap.size 3 i0 (.int .i64 0) 1 8 Try.underlying22 hi hz0 hz1 hz2 rfl (by decide) _ _ _ rfl (hown.alloc _) ⟨wr.heap.size, 0, none⟩ 1 1 [.int .i64 (x)] rfl rfl (one_cell _ _ _) (by intro u hu; simp at hu; subst hu; rfl) (by unfold maxLen; omega) (by omega) (by have := hnx.size; simp; omega) ?_)
          intro v' w2 hown' hgrow _
          have hb := (hnx.alloc hnx.size (.cells #[.int .i64 (x)] 3)).grown hgrow (by have := hnx.size; simp; omega) (fun j hj => by have := (hown.lt j hj).1; omega)
          have ho : Hid (w2.ownsRow w1.heap.size 3 1 v' (j + 1) (wantV xs k (xs.getD k 0 + ys.getD k 0) (j + 1))) := by show World.ownsRow _ _ _ _ _ _ _; rw [hs.out]; exact hown'
          clear hown' hgrow hown hnx e1 e2 j0 j1 j2 j3 j4 hs
          go_wp2_with fail
          go_roundw
          case rel => exact ⟨j + 1, by omega, by go_num, by rw [gs.out], ho.out, hb⟩
          case measure => (simp [intOf]; try omega)
    · obtain rfl : j = l1 := by omega
      have gf := goodB_full xs ys k j hxy.out (by rw [xl.out]; omega)
      have wf := wantV_full xs k (xs.getD k 0 + ys.getD k 0) j (by rw [xl.out]; omega)
      rw [gf]
      rw [wf] at hown
      clear gf wf
      rw [hs'.out]
      clear hown
      go_wp2_with fail
      refine (awake03_any _).mono ?_
      rintro e w9 ⟨rfl, hb9⟩
      go_wp2_with fail
      go_ret
      exact ⟨rfl, z0.out.trans ((hbr.trans (hb9.mono hbr.size)).mono z0.out.size)⟩

set_option maxRecDepth 100000 in
set_option maxHeartbeats 4000000 in
theorem joins_big (a1 : Option Addr) (l1 c1 : Nat) (xs : List Int) (a2 : Option Addr) (c2 : Nat) (ys : List Int) (k : Nat) (fr to : Int) (w : World) (h : IntsAt w a1 l1 xs) (h' : IntsAt w a2 l1 ys) (hlen : ¬ 50 < l1) (b1 : rightS xs = true) (b2 : rightS ys = true) (hk : k < l1) (hs : sameL (xs.set k (ys.getD k 0)) ys = true) (hr : rightS (xs.set k (xs.getD k 0 + ys.getD k 0)) = false) :
    Calls Try.prog 6 #[.agg #[.slice a1 l1 c1, .slice a2 l1 c2, .int .i64 k, .int .i64 fr, .int .i64 to]] w fun e w' => e = .returned (.bool true) ∧ Below w.heap.size w w' := by
  have J0 := JAt.made w (.slice a1 l1 c1) (.slice a2 l1 c2) k fr to 39
  have z0' : Below w.heap.size w (w.alloc (.cells #[.slice a1 l1 c1, .slice a2 l1 c2, .int .i64 k, .int .i64 fr, .int .i64 to] 39)) := (Below.refl _ _).alloc (Nat.le_refl _) _
  obtain ⟨wB, hwB⟩ : ∃ wB, w.alloc (.cells #[.slice a1 l1 c1, .slice a2 l1 c2, .int .i64 k, .int .i64 fr, .int .i64 to] 39) = wB := ⟨_, rfl⟩
  rw [hwB] at J0 z0'
  have J := Lib.hid J0
  have z0 := Lib.hid z0'
  have hwB' := Lib.hid hwB
  clear J0 z0' hwB
  have hB := h.kept z0.out
  have hB' := h'.kept z0.out
  clear h h'
  have C := Lib.hid (join_big a1 l1 c1 xs a2 c2 ys k wB hB hB' b1 b2 hk hs hr)
  obtain ⟨i0, hi, hz0, hz1, hz2⟩ := info_parts intsInfo
  have hlr := (rightS_parts b1).2.1
  have hX := Lib.hid (fun j (hj : j < l1) => allR_getD (rightS_parts b1).2.2.1 j (by have := hB.1; omega))
  have hY := Lib.hid (fun j (hj : j < l1) => allR_getD (rightS_parts b2).2.2.1 j (by have := hB'.1; omega))
  have xl := Lib.hid hB.1
  have yl := Lib.hid hB'.1
  have hxy := Lib.hid (show xs.length = ys.length by rw [xl.out, yl.out])
  have l4 : l1 ≤ 4 := by rw [xl.out] at hlr; exact hlr
  clear hlr
  have D1 := Lib.hid (fun w1 (hb : Below wB.heap.size wB w1) => refshape_any a1 l1 c1 xs w1 (hB.kept hb))
  have D2 := Lib.hid (fun w1 (hb : Below wB.heap.size wB w1) => refshape_any a2 l1 c2 ys w1 (hB'.kept hb))
  rw [b1] at D1
  rw [b2] at D2
  have hs' := Lib.hid hs
  have hr' := Lib.hid hr
  clear hr
  clear hs
  obtain ⟨b, off, ha1, hc1⟩ : ∃ b off, a1 = some ⟨b, off, none⟩ ∧ ∀ j, j < l1 → wB.cell? ⟨b, off + j, none⟩ = some (.int .i64 (xs.getD j 0)) := by
    rcases hB.2.2.2 with h4 | ⟨b, off, ha, hc⟩
    · omega
    · exact ⟨b, off, ha, hc⟩
  obtain ⟨b', off', ha2, hc2⟩ : ∃ b off, a2 = some ⟨b, off, none⟩ ∧ ∀ j, j < l1 → wB.cell? ⟨b, off + j, none⟩ = some (.int .i64 (ys.getD j 0)) := by
    rcases hB'.2.2.2 with h4 | ⟨b, off, ha, hc⟩
    · omega
    · exact ⟨b, off, ha, hc⟩
  subst ha1 ha2
  have hcx := Lib.hid (fun w1 (hb : Below wB.heap.size wB w1) j hj => cell_later hb (hc1 j hj))
  have hcy := Lib.hid (fun w1 (hb : Below wB.heap.size wB w1) j hj => cell_later hb (hc2 j hj))
  have g0 : decide (0 ≤ (k : Int)) = true := decide_eq_true (by omega)
  have g1 : decide ((k : Int) < (l1 : Int)) = true := decide_eq_true (by omega)
  have g1' : decide (k < l1) = true := decide_eq_true hk
  clear hc1 hc2 hB hB' b1 b2
  go_enter Try.func6, Try.ntmps6
  go_wp2_with fail
  rw [hwB'.out]
  refine C.out.mono ?_
  rintro e w1 ⟨rfl, hb1⟩
  obtain ⟨j0, j1, j2, j3, j4⟩ := J.out.kept hb1
  go_wp2_with fail
  refine (D1.out w1 hb1).mono ?_
  rintro e w' ⟨rfl, rfl⟩
  go_wp2_with fail
  refine (D2.out w1 hb1).mono ?_
  rintro e w' ⟨rfl, rfl⟩
  go_wp2_with fail
  clear j0 j1 j2 j3 j4
  go_loopw [5, 7, 84] (fun g v i wr => ∃ j : Nat, j ≤ l1 ∧ i = .int .i64 j ∧ g = .bool (goodB xs ys k j) ∧ wr.ownsRow w1.heap.size 3 1 v j (wantV xs k (xs.getD k 0 + ys.getD k 0) j) ∧ Below w1.heap.size w1 wr) (fun _ _ i _ => l1 - (intOf i).toNat)
  case atStart => exact ⟨0, Nat.zero_le _, rfl, by first | rfl | (unfold goodB; simp), World.ownsRow_nil _ _ _ _, Below.refl _ _⟩
  case round =>
    obtain ⟨j, hj, rfl, rfl, hown, hnx⟩ := hrel
    have hbr : Below wB.heap.size wB wr := hb1.trans (hnx.mono hb1.size)
    obtain ⟨j0, j1, j2, j3, j4⟩ := J.out.kept hbr
    by_cases hlt : j < l1
    · have e1 := hcx.out wr hbr j hlt
      have e2 := hcy.out wr hbr j hlt
      obtain ⟨p1, p2⟩ := hX.out j hlt
      obtain ⟨p3, p4⟩ := hY.out j hlt
      have hs := Lib.hid (wantV_step xs k (xs.getD k 0 + ys.getD k 0) j (by rw [xl.out]; exact hlt))
      by_cases hjk : j = k
      · subst hjk
        have gs := Lib.hid (goodB_k xs ys j hxy.out (by rw [xl.out]; exact hlt))
        rw [set_self xs j _ (by rw [xl.out]; exact hlt)] at hs
        generalize xs.getD j 0 = x at *
        generalize ys.getD j 0 = y at *
        generalize goodB xs ys j j = G at *
        go_wp2_with (at_builtin; refine wpList_append_own _ rfl _ _ 22 rfl w1.heap.size 3 i0 (.int .i64 0) 1 8 Try.underlying22 hi hz0 hz1 hz2 rfl (by decide) _ _ _ rfl (hown.alloc _) ⟨wr.heap.size, 0, none⟩ 1 1 [.int .i64 (x + y)] rfl rfl (one_cell _ _ _) (by intro u hu; simp at hu; subst hu; rfl) (by unfold maxLen; omega) (by omega) (by have := hnx.size; simp; omega) ?_)
        intro v' w2 hown' hgrow _
        have hb := (hnx.alloc hnx.size (.cells #[.int .i64 (x + y)] 3)).grown hgrow (by have := hnx.size; simp; omega) (fun j hj => by have := (hown.lt j hj).1; omega)
        have ho : Hid (w2.ownsRow w1.heap.size 3 1 v' (j + 1) (wantV xs j (x + y) (j + 1))) := by show World.ownsRow _ _ _ _ _ _ _; rw [hs.out]; exact hown'
        clear hown' hgrow hown hnx e1 e2 j0 j1 j2 j3 j4 hs
        go_wp2_with fail
        go_roundw
        case rel => exact ⟨j + 1, by omega, by go_num, by rw [gs.out], ho.out, hb⟩
        case measure => (simp [intOf]; try omega)
      · have d6 : ((j : Int) == (k : Int)) = false := beq_eq_false_iff_ne.2 (by omega)
        have d8 : decide (j = k) = false := decide_eq_false hjk
        rw [set_other xs k j _ hjk] at hs
        by_cases heq : ys.getD j 0 = xs.getD j 0
        · have gs := Lib.hid (goodB_same xs ys k j hxy.out (by rw [xl.out]; exact hlt) hjk heq)
          rw [heq] at e2
          clear heq
          generalize xs.getD j 0 = x at *
          generalize goodB xs ys k j = G at *
          go_wp2_with (at_builtin; refine wpList_append_own _ rfl _ _ 22 rfl w1.heap.size 3 i0 (.int .i64 0) 1 8 Try.underlying22 hi hz0 hz1 hz2 rfl (by decide) _ _ _ rfl (hown.alloc _) ⟨wr.heap.size, 0, none⟩ 1 1 [.int .i64 (x)] rfl rfl (one_cell _ _ _) (by intro u hu; simp at hu; subst hu; rfl) (by unfold maxLen; omega) (by omega) (by have := hnx.size; simp; omega) ?_)
          intro v' w2 hown' hgrow _
          have hb := (hnx.alloc hnx.size (.cells #[.int .i64 (x)] 3)).grown hgrow (by have := hnx.size; simp; omega) (fun j hj => by have := (hown.lt j hj).1; omega)
          have ho : Hid (w2.ownsRow w1.heap.size 3 1 v' (j + 1) (wantV xs k (xs.getD k 0 + ys.getD k 0) (j + 1))) := by show World.ownsRow _ _ _ _ _ _ _; rw [hs.out]; exact hown'
          clear hown' hgrow hown hnx e1 e2 j0 j1 j2 j3 j4 hs
          go_wp2_with fail
          go_roundw
          case rel => exact ⟨j + 1, by omega, by go_num, by rw [gs.out], ho.out, hb⟩
          case measure => (simp [intOf]; try omega)
        · have gs := Lib.hid (goodB_other xs ys k j hxy.out (by rw [xl.out]; exact hlt) hjk heq)
          generalize xs.getD j 0 = x at *
          generalize ys.getD j 0 = y at *
          generalize goodB xs ys k j = G at *
          go_wp2_with (at_builtin; refine wpList_append_own _ rfl _ _ 22 rfl w1.heap.size 3 i0 (.int .i64 0) 1 8 Try.underlying22 hi hz0 hz1 hz2 rfl (by decide) _ _ _ rfl (hown.alloc _) ⟨wr.heap.size, 0, none⟩ 1 1 [.int .i64 (x)] rfl rfl (one_cell _ _ _) (by intro u hu; simp at hu; subst hu; rfl) (by unfold maxLen; omega) (by omega) (by have := hnx.size; simp; omega) ?_)
          intro v' w2 hown' hgrow _
          have hb := (hnx.alloc hnx.size (.cells #[.int .i64 (x)] 3)).grown hgrow (by have := hnx.size; simp; omega) (fun j hj => by have := (hown.lt j hj).1; omega)
          have ho : Hid (w2.ownsRow w1.heap.size 3 1 v' (j + 1) (wantV xs k (xs.getD k 0 + ys.getD k 0) (j + 1))) := by show World.ownsRow _ _ _ _ _ _ _; rw [hs.out]; exact hown'
          clear hown' hgrow hown hnx e1 e2 j0 j1 j2 j3 j4 hs
          go_wp2_with fail
          go_roundw
          case rel => exact ⟨j + 1, by omega, by go_num, by rw [gs.out], ho.out, hb⟩
          case measure => (simp [intOf]; try omega)
    · obtain rfl : j = l1 := by omega
      have gf := goodB_full xs ys k j hxy.out (by rw [xl.out]; omega)
      have wf := wantV_full xs k (xs.getD k 0 + ys.getD k 0) j (by rw [xl.out]; omega)
      rw [gf]
      rw [wf] at hown
      clear gf wf
      rw [hs'.out]
      obtain ⟨x1, x2⟩ := hX.out k hk
      obtain ⟨y1, y2⟩ := hY.out k hk
      obtain ⟨A, cw, rfl, hiw⟩ := own_ints hown (by rw [List.length_set, xl.out]) (by omega) (by
        intro n hn
        rcases List.mem_or_eq_of_mem_set hn with h' | rfl
        · obtain ⟨q, hq, rfl⟩ := List.mem_iff_getElem.1 h'
          have := hX.out q (by rw [← xl.out]; exact hq)
          simp [List.getD, List.getElem?_eq_getElem hq] at this
          omega
        · omega)
      have R1 := refshape_any A _ cw _ wr hiw
      rw [hr'.out] at R1
      have R2 := Lib.hid R1
      clear R1 hown hiw
      go_wp2_with fail
      refine R2.out.mono ?_
      rintro e w' ⟨rfl, rfl⟩
      go_wp2_with fail
      refine (awake03_any _).mono ?_
      rintro e w9 ⟨rfl, hb9⟩
      go_wp2_with fail
      go_ret
      exact ⟨rfl, z0.out.trans ((hbr.trans (hb9.mono hbr.size)).mono z0.out.size)⟩

end Go.Proofs.Ytieajkpjkhdjeaa
