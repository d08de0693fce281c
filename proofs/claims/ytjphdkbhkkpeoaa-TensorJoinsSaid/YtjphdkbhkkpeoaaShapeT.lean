/-
  Contracts of package shape: Join, Cut.
-/
import Derived.Test.YtjphdkbhkkpeoaaShapeU
import Derived.Deep.RegionWith
import Derived.IntWalk
namespace Go.Proofs.Ytjphdkbhkkpeoaa
open Go.RowKit
set_option linter.unusedVariables false
set_option linter.unusedSimpArgs false

/-- No shape and this error; all that was there before is as it was. -/
def NilE (w : World) (x : Int) (e : Ending) (w' : World) : Prop := e = .returned (.tuple #[.slice none 0 0, .int .i64 x]) ∧ Below w.heap.size w w'
/-- A new slice of these integers and no error. -/
def NewE (w : World) (n : Nat) (zs : List Int) (e : Ending) (w' : World) : Prop :=
  ∃ A cap, e = .returned (.tuple #[.slice A n cap, .int .i64 0]) ∧ w'.ownsRow w.heap.size 3 1 (.slice A n cap) n (zs.map (Value.int .i64)) ∧ Below w.heap.size w w'

set_option maxHeartbeats 2000000 in
theorem join_wrong (a1 : Option Addr) (l1 c1 : Nat) (xs : List Int) (a2 : Option Addr) (l2 c2 : Nat) (ys : List Int) (side : Int) (w : World) (h : IntsAt w a1 l1 xs) (h' : IntsAt w a2 l2 ys)
    (hn : ¬ (rightS xs = true ∧ rightS ys = true ∧ l1 = l2)) :
    Calls Try.prog 28 #[.slice a1 l1 c1, .slice a2 l2 c2, .int .i64 side] w (NilE w 20) := by
  have C := rightM_any a1 l1 c1 xs w h
  have D := fun w1 (hb : Below w.heap.size w w1) => rightM_any a2 l2 c2 ys w1 (h'.kept hb)
  cases b1 : rightS xs
  · rw [b1] at C
    have C1 := Lib.hid C
    clear C D b1 hn h h'
    go_enter Try.func28, Try.ntmps28
    go_wp2_with fail
    refine C1.out.mono ?_
    rintro e w1 ⟨rfl, hb⟩
    go_wp2_with fail
    go_ret2
    exact ⟨rfl, hb⟩
  cases b2 : rightS ys
  · rw [b1] at C
    rw [b2] at D
    have C1 := Lib.hid C
    have D1 := Lib.hid D
    clear C D b1 b2 hn h h'
    go_enter Try.func28, Try.ntmps28
    go_wp2_with fail
    refine C1.out.mono ?_
    rintro e w1 ⟨rfl, hb⟩
    go_wp2_with fail
    refine (D1.out w1 hb).mono ?_
    rintro e w2 ⟨rfl, hb2⟩
    go_wp2_with fail
    go_ret2
    exact ⟨rfl, hb.trans (hb2.mono hb.size)⟩
  · have hne : ¬ l1 = l2 := fun e => hn ⟨b1, b2, e⟩
    have hne' : ¬ (l1 : Int) = (l2 : Int) := by omega
    rw [b1] at C
    rw [b2] at D
    have C1 := Lib.hid C
    have D1 := Lib.hid D
    clear C D b1 b2 hn h h'
    go_enter Try.func28, Try.ntmps28
    go_wp2_with fail
    refine C1.out.mono ?_
    rintro e w1 ⟨rfl, hb⟩
    go_wp2_with fail
    refine (D1.out w1 hb).mono ?_
    rintro e w2 ⟨rfl, hb2⟩
    go_wp2_with fail
    go_ret2
    exact ⟨rfl, hb.trans (hb2.mono hb.size)⟩

set_option maxHeartbeats 2000000 in
theorem join_none (a1 : Option Addr) (l1 c1 : Nat) (xs : List Int) (a2 : Option Addr) (c2 : Nat) (ys : List Int) (side : Int) (w : World) (h : IntsAt w a1 l1 xs) (h' : IntsAt w a2 l1 ys)
    (b1 : rightS xs = true) (b2 : rightS ys = true) (hd : hasD l1 side = false) :
    Calls Try.prog 28 #[.slice a1 l1 c1, .slice a2 l1 c2, .int .i64 side] w (NilE w 11) := by
  have C := rightM_any a1 l1 c1 xs w h
  have D := fun w1 (hb : Below w.heap.size w w1) => rightM_any a2 l1 c2 ys w1 (h'.kept hb)
  have E := fun w1 => hasD_any a1 l1 c1 side w1 h.2.1
  rw [b1] at C
  rw [b2] at D
  rw [hd] at E
  have C1 := Lib.hid C
  have D1 := Lib.hid D
  have E1 := Lib.hid E
  clear C D E b1 b2 h h' hd
  go_enter Try.func28, Try.ntmps28
  go_wp2_with fail
  refine C1.out.mono ?_
  rintro e w1 ⟨rfl, hb⟩
  go_wp2_with fail
  refine (D1.out w1 hb).mono ?_
  rintro e w2 ⟨rfl, hb2⟩
  go_wp2_with fail
  refine (E1.out w2).mono ?_
  rintro e w3 ⟨rfl, rfl⟩
  go_wp2_with fail
  go_ret2
  exact ⟨rfl, hb.trans (hb2.mono hb.size)⟩

set_option maxHeartbeats 4000000 in
theorem join_other (a1 : Option Addr) (l1 c1 : Nat) (xs : List Int) (a2 : Option Addr) (c2 : Nat) (ys : List Int) (k : Nat) (w : World) (h : IntsAt w a1 l1 xs) (h' : IntsAt w a2 l1 ys)
    (b1 : rightS xs = true) (b2 : rightS ys = true) (hk : k < l1) (hs : sameL (xs.set k (ys.getD k 0)) ys = false) :
    Calls Try.prog 28 #[.slice a1 l1 c1, .slice a2 l1 c2, .int .i64 k] w (NilE w 20) := by
  have hl : l1 ≤ 4 := by have := (rightS_parts b1).2.1; have := h.1; omega
  have C := rightM_any a1 l1 c1 xs w h
  have D := fun w1 (hb : Below w.heap.size w w1) => rightM_any a2 l1 c2 ys w1 (h'.kept hb)
  have E := fun w1 => hasD_any a1 l1 c1 k w1 h.2.1
  have F := fun w1 (hb : Below w.heap.size w w1) => with_any a1 l1 c1 xs w1 (h.kept hb) (by omega) k hk (ys.getD k 0)
  have G := fun w1 (hb : Below w.heap.size w w1) A cap zs (hz : IntsAt w1 A l1 zs) => equal_any A l1 cap zs a2 l1 c2 ys w1 hz (h'.kept hb)
  have hX := Lib.hid (h.2.2.1)
  have hY := Lib.hid (h'.2.2.1)
  rw [b1] at C
  rw [b2] at D
  rw [← hasD_yes (show (0 : Int) ≤ k by omega) (show (k : Int) < l1 by omega)] at E
  have C1 := Lib.hid C
  have D1 := Lib.hid D
  have E1 := Lib.hid E
  have F1 := Lib.hid F
  have G1 := Lib.hid G
  have hs1 := Lib.hid hs
  obtain ⟨b, off, rfl, hc⟩ : ∃ b off, a2 = some ⟨b, off, none⟩ ∧ w.cell? ⟨b, off + k, none⟩ = some (.int .i64 (ys.getD k 0)) := by
    rcases h'.2.2.2 with h4 | ⟨b, off, ha, hc⟩
    · omega
    · exact ⟨b, off, ha, hc k hk⟩
  have hcell := Lib.hid (fun w1 (hb : Below w.heap.size w w1) => cell_later hb hc)
  have hys := hY.out.getD k
  obtain ⟨y, hy'⟩ : ∃ y, ys.getD k 0 = y := ⟨_, rfl⟩
  rw [hy'] at hcell F1 hs1 hys
  clear C D E F G b1 b2 h h' hs hc hy'
  go_enter Try.func28, Try.ntmps28
  go_wp2_with fail
  refine C1.out.mono ?_
  rintro e w1 ⟨rfl, hb⟩
  go_wp2_with fail
  refine (D1.out w1 hb).mono ?_
  rintro e w2 ⟨rfl, hb2⟩
  replace hb2 := hb.trans (hb2.mono hb.size)
  clear hb
  go_wp2_with fail
  refine (E1.out w2).mono ?_
  rintro e w3 ⟨rfl, rfl⟩
  have hc2 := hcell.out w2 hb2
  go_wp2_with fail
  refine (F1.out w2 hb2).mono ?_
  rintro e w3 ⟨A, c, rfl, ho, hb3⟩
  replace hb3 := hb2.trans (hb3.mono hb2.size)
  have hz := Lib.hid (row_ints ho (by omega) (hX.out.set k y hys.1 hys.2))
  have H1 := G1.out w3 hb3 A c _ hz.out
  rw [hs1.out] at H1
  have H2 := Lib.hid H1
  clear ho hb2 H1 hc2
  go_wp2_with fail
  refine H2.out.mono ?_
  rintro e w4 ⟨rfl, n, rfl⟩
  go_wp2_with fail
  go_ret2
  exact ⟨rfl, below_drewN' hb3 n⟩

theorem row_kept {B : Nat} {e : TypeId} {k : Nat} {v : Value} {n : Nat} {xs : List Value} {w w' : World} (h : w.ownsRow B e k v n xs) (hb : Below w.heap.size w w') : w'.ownsRow B e k v n xs := by
  refine ⟨h.1, ?_⟩
  rcases h.2 with h2 | ⟨g, cap, cur, hv, hbg, hg, r1, r2, r3, r4⟩
  · exact .inl h2
  · exact .inr ⟨g, cap, cur, hv, hbg, by rw [hb.block g (by apply Decidable.byContradiction; intro hn; rw [Array.getElem?_eq_none (by omega)] at hg; cases hg)]; exact hg, r1, r2, r3, r4⟩

set_option maxHeartbeats 4000000 in
theorem join_big (a1 : Option Addr) (l1 c1 : Nat) (xs : List Int) (a2 : Option Addr) (c2 : Nat) (ys : List Int) (k : Nat) (w : World) (h : IntsAt w a1 l1 xs) (h' : IntsAt w a2 l1 ys)
    (b1 : rightS xs = true) (b2 : rightS ys = true) (hk : k < l1) (hs : sameL (xs.set k (ys.getD k 0)) ys = true) (hr : rightS (xs.set k (xs.getD k 0 + ys.getD k 0)) = false) :
    Calls Try.prog 28 #[.slice a1 l1 c1, .slice a2 l1 c2, .int .i64 k] w (NilE w 20) := by
  have hl : l1 ≤ 4 := by have := (rightS_parts b1).2.1; have := h.1; omega
  obtain ⟨x1, x2⟩ := allR_getD (rightS_parts b1).2.2.1 k (by have := h.1; omega)
  obtain ⟨y1, y2⟩ := allR_getD (rightS_parts b2).2.2.1 k (by have := h'.1; omega)
  have C := rightM_any a1 l1 c1 xs w h
  have D := fun w1 (hb : Below w.heap.size w w1) => rightM_any a2 l1 c2 ys w1 (h'.kept hb)
  have E := fun w1 => hasD_any a1 l1 c1 k w1 h.2.1
  have F := fun w1 (hb : Below w.heap.size w w1) n => with_any a1 l1 c1 xs w1 (h.kept hb) (by omega) k hk n
  have G := fun w1 (hb : Below w.heap.size w w1) A cap zs (hz : IntsAt w1 A l1 zs) => equal_any A l1 cap zs a2 l1 c2 ys w1 hz (h'.kept hb)
  have hX := Lib.hid (h.2.2.1)
  rw [b1] at C
  rw [b2] at D
  rw [← hasD_yes (show (0 : Int) ≤ k by omega) (show (k : Int) < l1 by omega)] at E
  have C1 := Lib.hid C
  have D1 := Lib.hid D
  have E1 := Lib.hid E
  have F1 := Lib.hid F
  have G1 := Lib.hid G
  have hs1 := Lib.hid hs
  have hr1 := Lib.hid hr
  obtain ⟨b, off, rfl, hc⟩ : ∃ b off, a2 = some ⟨b, off, none⟩ ∧ w.cell? ⟨b, off + k, none⟩ = some (.int .i64 (ys.getD k 0)) := by
    rcases h'.2.2.2 with h4 | ⟨b, off, ha, hc⟩
    · omega
    · exact ⟨b, off, ha, hc k hk⟩
  obtain ⟨b', off', rfl, hc'⟩ : ∃ b off, a1 = some ⟨b, off, none⟩ ∧ w.cell? ⟨b, off + k, none⟩ = some (.int .i64 (xs.getD k 0)) := by
    rcases h.2.2.2 with h4 | ⟨b, off, ha, hc⟩
    · omega
    · exact ⟨b, off, ha, hc k hk⟩
  have hcell := Lib.hid (fun w1 (hb : Below w.heap.size w w1) => cell_later hb hc)
  have hcell' := Lib.hid (fun w1 (hb : Below w.heap.size w w1) => cell_later hb hc')
  obtain ⟨y, hy'⟩ : ∃ y, ys.getD k 0 = y := ⟨_, rfl⟩
  obtain ⟨x, hx'⟩ : ∃ x, xs.getD k 0 = x := ⟨_, rfl⟩
  rw [hy'] at hcell hs1 hr1 y1 y2
  rw [hx'] at hcell' hr1 x1 x2
  clear C D E F G b1 b2 h h' hs hr hc hc' hy' hx'
  go_enter Try.func28, Try.ntmps28
  go_wp2_with fail
  refine C1.out.mono ?_
  rintro e w1 ⟨rfl, hb⟩
  go_wp2_with fail
  refine (D1.out w1 hb).mono ?_
  rintro e w2 ⟨rfl, hb2⟩
  replace hb2 := hb.trans (hb2.mono hb.size)
  clear hb
  go_wp2_with fail
  refine (E1.out w2).mono ?_
  rintro e w3 ⟨rfl, rfl⟩
  have hc2 := hcell.out w2 hb2
  go_wp2_with fail
  refine (F1.out w2 hb2 y).mono ?_
  rintro e w3 ⟨A, c, rfl, ho, hb3⟩
  replace hb3 := hb2.trans (hb3.mono hb2.size)
  have hz := Lib.hid (row_ints ho (by omega) (hX.out.set k y (by omega) (by omega)))
  have H1 := G1.out w3 hb3 A c _ hz.out
  rw [hs1.out] at H1
  have H2 := Lib.hid H1
  clear ho hb2 H1 hc2
  go_wp2_with fail
  refine H2.out.mono ?_
  rintro e w4 ⟨rfl, n, hW⟩
  have hb4 : Below w.heap.size w w4 := by rw [hW]; exact below_drewN' hb3 n
  clear hW H2 hb3
  have hc3 := hcell.out w4 hb4
  have hc4 := hcell'.out w4 hb4
  have r1 : IntKind.i64.wrap (x + y) = x + y := IntWalk.i64_in _ (by omega)
  go_wp2_with fail
  go_region_with (go_at_call 47; refine (F1.out _ (by first | exact hb4 | exact hb4.drew | exact below_drewN' hb4 _) (x + y)).mono ?_; rintro e w5 ⟨A2, c2', rfl, ho2, hb5⟩)
  all_goals
    have hb6 : Below w.heap.size w w5 := hb4.drew.trans (hb5.mono hb4.size)
    have hz5 := row_ints ho2 (by omega) (hX.out.set k (x + y) (by omega) (by omega))
    have R1 := rightM_any A2 l1 c2' _ w5 hz5
    rw [hr1.out] at R1
    have R2 := Lib.hid R1
    clear R1 hz5 ho2 hb5 hb4 hc3 hc4 r1
    go_wp2_with fail
    refine R2.out.mono ?_
    rintro e w6 ⟨rfl, hb7⟩
    go_wp2_with fail
    go_ret2
    exact ⟨rfl, hb6.trans (hb7.mono hb6.size)⟩

set_option maxHeartbeats 4000000 in
theorem join_ok (a1 : Option Addr) (l1 c1 : Nat) (xs : List Int) (a2 : Option Addr) (c2 : Nat) (ys : List Int) (k : Nat) (w : World) (h : IntsAt w a1 l1 xs) (h' : IntsAt w a2 l1 ys)
    (b1 : rightS xs = true) (b2 : rightS ys = true) (hk : k < l1) (hs : sameL (xs.set k (ys.getD k 0)) ys = true) (hr : rightS (xs.set k (xs.getD k 0 + ys.getD k 0)) = true) :
    Calls Try.prog 28 #[.slice a1 l1 c1, .slice a2 l1 c2, .int .i64 k] w (NewE w l1 (xs.set k (xs.getD k 0 + ys.getD k 0))) := by
  have hl : l1 ≤ 4 := by have := (rightS_parts b1).2.1; have := h.1; omega
  obtain ⟨x1, x2⟩ := allR_getD (rightS_parts b1).2.2.1 k (by have := h.1; omega)
  obtain ⟨y1, y2⟩ := allR_getD (rightS_parts b2).2.2.1 k (by have := h'.1; omega)
  have C := rightM_any a1 l1 c1 xs w h
  have D := fun w1 (hb : Below w.heap.size w w1) => rightM_any a2 l1 c2 ys w1 (h'.kept hb)
  have E := fun w1 => hasD_any a1 l1 c1 k w1 h.2.1
  have F := fun w1 (hb : Below w.heap.size w w1) n => with_any a1 l1 c1 xs w1 (h.kept hb) (by omega) k hk n
  have G := fun w1 (hb : Below w.heap.size w w1) A cap zs (hz : IntsAt w1 A l1 zs) => equal_any A l1 cap zs a2 l1 c2 ys w1 hz (h'.kept hb)
  have hX := Lib.hid (h.2.2.1)
  rw [b1] at C
  rw [b2] at D
  rw [← hasD_yes (show (0 : Int) ≤ k by omega) (show (k : Int) < l1 by omega)] at E
  have C1 := Lib.hid C
  have D1 := Lib.hid D
  have E1 := Lib.hid E
  have F1 := Lib.hid F
  have G1 := Lib.hid G
  have hs1 := Lib.hid hs
  have hr1 := Lib.hid hr
  obtain ⟨b, off, rfl, hc⟩ : ∃ b off, a2 = some ⟨b, off, none⟩ ∧ w.cell? ⟨b, off + k, none⟩ = some (.int .i64 (ys.getD k 0)) := by
    rcases h'.2.2.2 with h4 | ⟨b, off, ha, hc⟩
    · omega
    · exact ⟨b, off, ha, hc k hk⟩
  obtain ⟨b', off', rfl, hc'⟩ : ∃ b off, a1 = some ⟨b, off, none⟩ ∧ w.cell? ⟨b, off + k, none⟩ = some (.int .i64 (xs.getD k 0)) := by
    rcases h.2.2.2 with h4 | ⟨b, off, ha, hc⟩
    · omega
    · exact ⟨b, off, ha, hc k hk⟩
  have hcell := Lib.hid (fun w1 (hb : Below w.heap.size w w1) => cell_later hb hc)
  have hcell' := Lib.hid (fun w1 (hb : Below w.heap.size w w1) => cell_later hb hc')
  obtain ⟨y, hy'⟩ : ∃ y, ys.getD k 0 = y := ⟨_, rfl⟩
  obtain ⟨x, hx'⟩ : ∃ x, xs.getD k 0 = x := ⟨_, rfl⟩
  rw [hy'] at hcell hs1 hr1 y1 y2
  rw [hx'] at hcell' hr1 x1 x2
  rw [hx', hy']
  clear C D E F G b1 b2 h h' hs hr hc hc' hy' hx'
  go_enter Try.func28, Try.ntmps28
  go_wp2_with fail
  refine C1.out.mono ?_
  rintro e w1 ⟨rfl, hb⟩
  go_wp2_with fail
  refine (D1.out w1 hb).mono ?_
  rintro e w2 ⟨rfl, hb2⟩
  replace hb2 := hb.trans (hb2.mono hb.size)
  clear hb
  go_wp2_with fail
  refine (E1.out w2).mono ?_
  rintro e w3 ⟨rfl, rfl⟩
  have hc2 := hcell.out w2 hb2
  go_wp2_with fail
  refine (F1.out w2 hb2 y).mono ?_
  rintro e w3 ⟨A, c, rfl, ho, hb3⟩
  replace hb3 := hb2.trans (hb3.mono hb2.size)
  have hz := Lib.hid (row_ints ho (by omega) (hX.out.set k y (by omega) (by omega)))
  have H1 := G1.out w3 hb3 A c _ hz.out
  rw [hs1.out] at H1
  have H2 := Lib.hid H1
  clear ho hb2 H1 hc2
  go_wp2_with fail
  refine H2.out.mono ?_
  rintro e w4 ⟨rfl, n, hW⟩
  have hb4 : Below w.heap.size w w4 := by rw [hW]; exact below_drewN' hb3 n
  clear hW H2 hb3
  have hc3 := hcell.out w4 hb4
  have hc4 := hcell'.out w4 hb4
  have r1 : IntKind.i64.wrap (x + y) = x + y := IntWalk.i64_in _ (by omega)
  go_wp2_with fail
  go_region_with (go_at_call 47; refine (F1.out _ (by first | exact hb4 | exact hb4.drew | exact below_drewN' hb4 _) (x + y)).mono ?_; rintro e w5 ⟨A2, c2', rfl, ho2, hb5⟩)
  all_goals
    have hb6 : Below w.heap.size w w5 := hb4.drew.trans (hb5.mono hb4.size)
    have hz5 := row_ints ho2 (by omega) (hX.out.set k (x + y) (by omega) (by omega))
    have R1 := rightM_any A2 l1 c2' _ w5 hz5
    rw [hr1.out] at R1
    have R2 := Lib.hid R1
    have P0 : ∀ w6, Below w5.heap.size w5 w6 → NewE w l1 (xs.set k (x + y)) (.returned (.tuple #[.slice A2 l1 c2', .int .i64 0])) w6 := fun w6 hb7 =>
      ⟨_, _, rfl, row_kept (Joins.ownsRow_le ho2 hb4.size) hb7, hb6.trans (hb7.mono hb6.size)⟩
    have P := Lib.hid P0
    clear R1 hz5 ho2 hb5 hb4 hc3 hc4 r1 P0
    go_wp2_with fail
    refine R2.out.mono ?_
    rintro e w6 ⟨rfl, hb7⟩
    have P6 := Lib.hid (P.out w6 hb7)
    go_wp2_with fail
    go_ret2
    exact P6.out
end Go.Proofs.Ytjphdkbhkkpeoaa
