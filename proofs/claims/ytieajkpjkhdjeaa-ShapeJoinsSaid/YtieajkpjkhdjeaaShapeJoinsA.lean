/-
  The walk of the statement ShapeJoins.
-/
import Derived.Test.YtieajkpjkhdjeaaShapeCutsW
namespace Go.Proofs.Ytieajkpjkhdjeaa
open Go.RowKit
set_option linter.unusedVariables false
set_option linter.unusedSimpArgs false

theorem intsInfo : (Try.prog.info? 3).map (fun i => (i.zero, i.size, i.bytes)) = some (some (.int .i64 0), 1, 8) := by kernel_rfl

/-- The first elements of a list with one changed, as values. -/
def wantV (xs : List Int) (k : Nat) (n : Int) (j : Nat) : List Value := ((xs.set k n).take j).map (Value.int .i64)
/-- The first elements are the same but for one. -/
def goodB (xs ys : List Int) (k j : Nat) : Bool := decide ((xs.set k (ys.getD k 0)).take j = ys.take j)
theorem wantV_step (xs : List Int) (k : Nat) (n : Int) (j : Nat) (hj : j < xs.length) : wantV xs k n (j + 1) = wantV xs k n j ++ [.int .i64 ((xs.set k n).getD j 0)] := by
  unfold wantV
  rw [List.take_add_one, List.map_append, List.getElem?_eq_getElem (by rw [List.length_set]; exact hj)]
  simp [List.getD, List.getElem?_eq_getElem (show j < (xs.set k n).length by rw [List.length_set]; exact hj)]
theorem wantV_full (xs : List Int) (k : Nat) (n : Int) (j : Nat) (hj : xs.length ≤ j) : wantV xs k n j = (xs.set k n).map (Value.int .i64) := by
  unfold wantV; rw [List.take_of_length_le (by rw [List.length_set]; exact hj)]
theorem take_succ_iff {l m : List Int} (j : Nat) (hl : j < l.length) (hm : j < m.length) : l.take (j + 1) = m.take (j + 1) ↔ (l.take j = m.take j ∧ l.getD j 0 = m.getD j 0) := by
  rw [List.take_add_one, List.take_add_one, List.getElem?_eq_getElem hl, List.getElem?_eq_getElem hm]
  simp only [Option.toList_some]
  constructor
  · intro h
    have := List.append_inj h (by rw [List.length_take_of_le (by omega), List.length_take_of_le (by omega)])
    refine ⟨this.1, ?_⟩
    have h2 := (List.cons.inj this.2).1
    simp only [List.getD, List.getElem?_eq_getElem hl, List.getElem?_eq_getElem hm, Option.getD_some]
    exact h2
  · rintro ⟨h1, h2⟩
    simp only [List.getD, List.getElem?_eq_getElem hl, List.getElem?_eq_getElem hm, Option.getD_some] at h2
    rw [h1, h2]
theorem goodB_k (xs ys : List Int) (k : Nat) (hl : xs.length = ys.length) (hk : k < xs.length) : goodB xs ys k (k + 1) = goodB xs ys k k := by
  unfold goodB
  rw [decide_eq_decide, take_succ_iff k (by rw [List.length_set]; exact hk) (by omega), set_self xs k _ hk]
  exact ⟨fun h => h.1, fun h => ⟨h, rfl⟩⟩
theorem goodB_same (xs ys : List Int) (k j : Nat) (hl : xs.length = ys.length) (hj : j < xs.length) (h : ¬ j = k) (he : ys.getD j 0 = xs.getD j 0) : goodB xs ys k (j + 1) = goodB xs ys k j := by
  unfold goodB
  rw [decide_eq_decide, take_succ_iff j (by rw [List.length_set]; exact hj) (by omega), set_other xs k j _ h, he]
  exact ⟨fun h => h.1, fun h => ⟨h, rfl⟩⟩
theorem goodB_other (xs ys : List Int) (k j : Nat) (hl : xs.length = ys.length) (hj : j < xs.length) (h : ¬ j = k) (he : ¬ ys.getD j 0 = xs.getD j 0) : goodB xs ys k (j + 1) = false := by
  unfold goodB
  rw [decide_eq_false_iff_not, take_succ_iff j (by rw [List.length_set]; exact hj) (by omega), set_other xs k j _ h]
  exact fun h' => he h'.2.symm
theorem goodB_full (xs ys : List Int) (k j : Nat) (hl : xs.length = ys.length) (hj : xs.length ≤ j) : goodB xs ys k j = sameL (xs.set k (ys.getD k 0)) ys := by
  unfold goodB sameL
  rw [List.take_of_length_le (by rw [List.length_set]; exact hj), List.take_of_length_le (by omega)]

set_option maxRecDepth 100000 in
set_option maxHeartbeats 4000000 in
theorem joins_long1 (a1 : Option Addr) (l1 c1 : Nat) (xs : List Int) (a2 : Option Addr) (l2 c2 : Nat) (ys : List Int) (side : Int) (fr to : Int) (w : World) (h : IntsAt w a1 l1 xs) (h' : IntsAt w a2 l2 ys) (hlen : 50 < l1) :
    Calls Try.prog 6 #[.agg #[.slice a1 l1 c1, .slice a2 l2 c2, .int .i64 side, .int .i64 fr, .int .i64 to]] w fun e w' => e = .returned (.bool true) ∧ Below w.heap.size w w' := by
  have J0 := JAt.made w (.slice a1 l1 c1) (.slice a2 l2 c2) side fr to 39
  have z0' : Below w.heap.size w (w.alloc (.cells #[.slice a1 l1 c1, .slice a2 l2 c2, .int .i64 side, .int .i64 fr, .int .i64 to] 39)) := (Below.refl _ _).alloc (Nat.le_refl _) _
  obtain ⟨wB, hwB⟩ : ∃ wB, w.alloc (.cells #[.slice a1 l1 c1, .slice a2 l2 c2, .int .i64 side, .int .i64 fr, .int .i64 to] 39) = wB := ⟨_, rfl⟩
  rw [hwB] at J0 z0'
  have J := Lib.hid J0
  have z0 := Lib.hid z0'
  have hwB' := Lib.hid hwB
  clear J0 z0' hwB
  have hB := h.kept z0.out
  have hB' := h'.kept z0.out
  clear h h'
  clear hB hB'
  go_enter Try.func6, Try.ntmps6
  go_wp2_with fail
  rw [hwB'.out]
  refine (awake03_any _).mono ?_
  rintro e w9 ⟨rfl, hb9⟩
  go_wp2_with fail
  go_ret
  exact ⟨rfl, z0.out.trans (hb9.mono z0.out.size)⟩

set_option maxRecDepth 100000 in
set_option maxHeartbeats 4000000 in
theorem joins_long2 (a1 : Option Addr) (l1 c1 : Nat) (xs : List Int) (a2 : Option Addr) (l2 c2 : Nat) (ys : List Int) (side : Int) (fr to : Int) (w : World) (h : IntsAt w a1 l1 xs) (h' : IntsAt w a2 l2 ys) (hlen : ¬ 50 < l1) (hlen2 : 50 < l2) :
    Calls Try.prog 6 #[.agg #[.slice a1 l1 c1, .slice a2 l2 c2, .int .i64 side, .int .i64 fr, .int .i64 to]] w fun e w' => e = .returned (.bool true) ∧ Below w.heap.size w w' := by
  have J0 := JAt.made w (.slice a1 l1 c1) (.slice a2 l2 c2) side fr to 39
  have z0' : Below w.heap.size w (w.alloc (.cells #[.slice a1 l1 c1, .slice a2 l2 c2, .int .i64 side, .int .i64 fr, .int .i64 to] 39)) := (Below.refl _ _).alloc (Nat.le_refl _) _
  obtain ⟨wB, hwB⟩ : ∃ wB, w.alloc (.cells #[.slice a1 l1 c1, .slice a2 l2 c2, .int .i64 side, .int .i64 fr, .int .i64 to] 39) = wB := ⟨_, rfl⟩
  rw [hwB] at J0 z0'
  have J := Lib.hid J0
  have z0 := Lib.hid z0'
  have hwB' := Lib.hid hwB
  clear J0 z0' hwB
  have hB := h.kept z0.out
  have hB' := h'.kept z0.out
  clear h h'
  clear hB hB'
  go_enter Try.func6, Try.ntmps6
  go_wp2_with fail
  rw [hwB'.out]
  refine (awake03_any _).mono ?_
  rintro e w9 ⟨rfl, hb9⟩
  go_wp2_with fail
  go_ret
  exact ⟨rfl, z0.out.trans (hb9.mono z0.out.size)⟩

set_option maxRecDepth 100000 in
set_option maxHeartbeats 4000000 in
theorem joins_w1 (a1 : Option Addr) (l1 c1 : Nat) (xs : List Int) (a2 : Option Addr) (l2 c2 : Nat) (ys : List Int) (side : Int) (fr to : Int) (w : World) (h : IntsAt w a1 l1 xs) (h' : IntsAt w a2 l2 ys) (hlen : ¬ 50 < l1) (hlen2 : ¬ 50 < l2) (b1 : rightS xs = false) :
    Calls Try.prog 6 #[.agg #[.slice a1 l1 c1, .slice a2 l2 c2, .int .i64 side, .int .i64 fr, .int .i64 to]] w fun e w' => e = .returned (.bool true) ∧ Below w.heap.size w w' := by
  have J0 := JAt.made w (.slice a1 l1 c1) (.slice a2 l2 c2) side fr to 39
  have z0' : Below w.heap.size w (w.alloc (.cells #[.slice a1 l1 c1, .slice a2 l2 c2, .int .i64 side, .int .i64 fr, .int .i64 to] 39)) := (Below.refl _ _).alloc (Nat.le_refl _) _
  obtain ⟨wB, hwB⟩ : ∃ wB, w.alloc (.cells #[.slice a1 l1 c1, .slice a2 l2 c2, .int .i64 side, .int .i64 fr, .int .i64 to] 39) = wB := ⟨_, rfl⟩
  rw [hwB] at J0 z0'
  have J := Lib.hid J0
  have z0 := Lib.hid z0'
  have hwB' := Lib.hid hwB
  clear J0 z0' hwB
  have hB := h.kept z0.out
  have hB' := h'.kept z0.out
  clear h h'
  have C := Lib.hid (join_wrong a1 l1 c1 xs a2 l2 c2 ys side wB hB hB' (by simp [b1]))
  have D1 := Lib.hid (fun w1 (hb : Below wB.heap.size wB w1) => refshape_any a1 l1 c1 xs w1 (hB.kept hb))
  have D2 := Lib.hid (fun w1 (hb : Below wB.heap.size wB w1) => refshape_any a2 l2 c2 ys w1 (hB'.kept hb))
  rw [b1] at D1
  clear hB hB' b1
  by_cases n0 : 0 < l1
  · skip
    go_enter Try.func6, Try.ntmps6
    go_wp2_with fail
    rw [hwB'.out]
    refine C.out.mono ?_
    rintro e w1 ⟨rfl, hb1⟩
    obtain ⟨j0, j1, j2, j3, j4⟩ := J.out.kept hb1
    go_wp2_with fail
    refine (D1.out w1 hb1).mono ?_
    rintro e w' ⟨rfl, rfl⟩
    go_wp2_with fail
    go_loop [5, 7, 84] (fun g v i => g = .bool false ∧ v = .slice none 0 0 ∧ i = .int .i64 0) (fun _ _ _ => 0)
    case atStart => exact ⟨by first | rfl | rw [hn1], rfl, rfl⟩
    case round =>
      obtain ⟨rfl, rfl, rfl⟩ := hrel
      go_wp2_with fail
      refine (awake03_any _).mono ?_
      rintro e w9 ⟨rfl, hb9⟩
      go_wp2_with fail
      go_ret
      exact ⟨rfl, z0.out.trans ((hb1.trans (hb9.mono hb1.size)).mono z0.out.size)⟩

  · skip
    go_enter Try.func6, Try.ntmps6
    go_wp2_with fail
    rw [hwB'.out]
    refine C.out.mono ?_
    rintro e w1 ⟨rfl, hb1⟩
    obtain ⟨j0, j1, j2, j3, j4⟩ := J.out.kept hb1
    go_wp2_with fail
    refine (D1.out w1 hb1).mono ?_
    rintro e w' ⟨rfl, rfl⟩
    go_wp2_with fail
    go_loop [5, 7, 84] (fun g v i => g = .bool false ∧ v = .slice none 0 0 ∧ i = .int .i64 0) (fun _ _ _ => 0)
    case atStart => exact ⟨by first | rfl | rw [hn1], rfl, rfl⟩
    case round =>
      obtain ⟨rfl, rfl, rfl⟩ := hrel
      go_wp2_with fail
      refine (awake03_any _).mono ?_
      rintro e w9 ⟨rfl, hb9⟩
      go_wp2_with fail
      go_ret
      exact ⟨rfl, z0.out.trans ((hb1.trans (hb9.mono hb1.size)).mono z0.out.size)⟩

set_option maxRecDepth 100000 in
set_option maxHeartbeats 4000000 in
theorem joins_w2 (a1 : Option Addr) (l1 c1 : Nat) (xs : List Int) (a2 : Option Addr) (l2 c2 : Nat) (ys : List Int) (side : Int) (fr to : Int) (w : World) (h : IntsAt w a1 l1 xs) (h' : IntsAt w a2 l2 ys) (hlen : ¬ 50 < l1) (hlen2 : ¬ 50 < l2) (b1 : rightS xs = true) (b2 : rightS ys = false) :
    Calls Try.prog 6 #[.agg #[.slice a1 l1 c1, .slice a2 l2 c2, .int .i64 side, .int .i64 fr, .int .i64 to]] w fun e w' => e = .returned (.bool true) ∧ Below w.heap.size w w' := by
  have J0 := JAt.made w (.slice a1 l1 c1) (.slice a2 l2 c2) side fr to 39
  have z0' : Below w.heap.size w (w.alloc (.cells #[.slice a1 l1 c1, .slice a2 l2 c2, .int .i64 side, .int .i64 fr, .int .i64 to] 39)) := (Below.refl _ _).alloc (Nat.le_refl _) _
  obtain ⟨wB, hwB⟩ : ∃ wB, w.alloc (.cells #[.slice a1 l1 c1, .slice a2 l2 c2, .int .i64 side, .int .i64 fr, .int .i64 to] 39) = wB := ⟨_, rfl⟩
  rw [hwB] at J0 z0'
  have J := Lib.hid J0
  have z0 := Lib.hid z0'
  have hwB' := Lib.hid hwB
  clear J0 z0' hwB
  have hB := h.kept z0.out
  have hB' := h'.kept z0.out
  clear h h'
  have C := Lib.hid (join_wrong a1 l1 c1 xs a2 l2 c2 ys side wB hB hB' (by simp [b1, b2]))
  have D1 := Lib.hid (fun w1 (hb : Below wB.heap.size wB w1) => refshape_any a1 l1 c1 xs w1 (hB.kept hb))
  have D2 := Lib.hid (fun w1 (hb : Below wB.heap.size wB w1) => refshape_any a2 l2 c2 ys w1 (hB'.kept hb))
  rw [b1] at D1
  rw [b2] at D2
  clear hB hB' b1 b2
  by_cases n0 : 0 < l1
  · skip
    go_enter Try.func6, Try.ntmps6
    go_wp2_with fail
    rw [hwB'.out]
    refine C.out.mono ?_
    rintro e w1 ⟨rfl, hb1⟩
    obtain ⟨j0, j1, j2, j3, j4⟩ := J.out.kept hb1
    go_wp2_with fail
    refine (D1.out w1 hb1).mono ?_
    rintro e w' ⟨rfl, rfl⟩
    go_wp2_with fail
    refine (D2.out w1 hb1).mono ?_
    rintro e w' ⟨rfl, rfl⟩
    go_wp2_with fail
    go_loop [5, 7, 84] (fun g v i => g = .bool false ∧ v = .slice none 0 0 ∧ i = .int .i64 0) (fun _ _ _ => 0)
    case atStart => exact ⟨by first | rfl | rw [hn1], rfl, rfl⟩
    case round =>
      obtain ⟨rfl, rfl, rfl⟩ := hrel
      go_wp2_with fail
      refine (awake03_any _).mono ?_
      rintro e w9 ⟨rfl, hb9⟩
      go_wp2_with fail
      go_ret
      exact ⟨rfl, z0.out.trans ((hb1.trans (hb9.mono hb1.size)).mono z0.out.size)⟩

  · skip
    go_enter Try.func6, Try.ntmps6
    go_wp2_with fail
    rw [hwB'.out]
    refine C.out.mono ?_
    rintro e w1 ⟨rfl, hb1⟩
    obtain ⟨j0, j1, j2, j3, j4⟩ := J.out.kept hb1
    go_wp2_with fail
    refine (D1.out w1 hb1).mono ?_
    rintro e w' ⟨rfl, rfl⟩
    go_wp2_with fail
    refine (D2.out w1 hb1).mono ?_
    rintro e w' ⟨rfl, rfl⟩
    go_wp2_with fail
    go_loop [5, 7, 84] (fun g v i => g = .bool false ∧ v = .slice none 0 0 ∧ i = .int .i64 0) (fun _ _ _ => 0)
    case atStart => exact ⟨by first | rfl | rw [hn1], rfl, rfl⟩
    case round =>
      obtain ⟨rfl, rfl, rfl⟩ := hrel
      go_wp2_with fail
      refine (awake03_any _).mono ?_
      rintro e w9 ⟨rfl, hb9⟩
      go_wp2_with fail
      go_ret
      exact ⟨rfl, z0.out.trans ((hb1.trans (hb9.mono hb1.size)).mono z0.out.size)⟩

set_option maxRecDepth 100000 in
set_option maxHeartbeats 4000000 in
theorem joins_w3 (a1 : Option Addr) (l1 c1 : Nat) (xs : List Int) (a2 : Option Addr) (l2 c2 : Nat) (ys : List Int) (side : Int) (fr to : Int) (w : World) (h : IntsAt w a1 l1 xs) (h' : IntsAt w a2 l2 ys) (hlen : ¬ 50 < l1) (hlen2 : ¬ 50 < l2) (b1 : rightS xs = true) (b2 : rightS ys = true) (hne : ¬ l1 = l2) :
    Calls Try.prog 6 #[.agg #[.slice a1 l1 c1, .slice a2 l2 c2, .int .i64 side, .int .i64 fr, .int .i64 to]] w fun e w' => e = .returned (.bool true) ∧ Below w.heap.size w w' := by
  have J0 := JAt.made w (.slice a1 l1 c1) (.slice a2 l2 c2) side fr to 39
  have z0' : Below w.heap.size w (w.alloc (.cells #[.slice a1 l1 c1, .slice a2 l2 c2, .int .i64 side, .int .i64 fr, .int .i64 to] 39)) := (Below.refl _ _).alloc (Nat.le_refl _) _
  obtain ⟨wB, hwB⟩ : ∃ wB, w.alloc (.cells #[.slice a1 l1 c1, .slice a2 l2 c2, .int .i64 side, .int .i64 fr, .int .i64 to] 39) = wB := ⟨_, rfl⟩
  rw [hwB] at J0 z0'
  have J := Lib.hid J0
  have z0 := Lib.hid z0'
  have hwB' := Lib.hid hwB
  clear J0 z0' hwB
  have hB := h.kept z0.out
  have hB' := h'.kept z0.out
  clear h h'
  have C := Lib.hid (join_wrong a1 l1 c1 xs a2 l2 c2 ys side wB hB hB' (by simp [hne]))
  have D1 := Lib.hid (fun w1 (hb : Below wB.heap.size wB w1) => refshape_any a1 l1 c1 xs w1 (hB.kept hb))
  have D2 := Lib.hid (fun w1 (hb : Below wB.heap.size wB w1) => refshape_any a2 l2 c2 ys w1 (hB'.kept hb))
  rw [b1] at D1
  rw [b2] at D2
  have hne' : ¬ (l1 : Int) = (l2 : Int) := by omega
  have hn1 : ((l1 : Int) == (l2 : Int)) = false := beq_eq_false_iff_ne.2 hne'
  clear hB hB' b1 b2
  by_cases n0 : 0 < l1
  · skip
    go_enter Try.func6, Try.ntmps6
    go_wp2_with fail
    rw [hwB'.out]
    refine C.out.mono ?_
    rintro e w1 ⟨rfl, hb1⟩
    obtain ⟨j0, j1, j2, j3, j4⟩ := J.out.kept hb1
    go_wp2_with fail
    refine (D1.out w1 hb1).mono ?_
    rintro e w' ⟨rfl, rfl⟩
    go_wp2_with fail
    refine (D2.out w1 hb1).mono ?_
    rintro e w' ⟨rfl, rfl⟩
    go_wp2_with fail
    go_loop [5, 7, 84] (fun g v i => g = .bool false ∧ v = .slice none 0 0 ∧ i = .int .i64 0) (fun _ _ _ => 0)
    case atStart => exact ⟨by first | rfl | rw [hn1], rfl, rfl⟩
    case round =>
      obtain ⟨rfl, rfl, rfl⟩ := hrel
      go_wp2_with fail
      refine (awake03_any _).mono ?_
      rintro e w9 ⟨rfl, hb9⟩
      go_wp2_with fail
      go_ret
      exact ⟨rfl, z0.out.trans ((hb1.trans (hb9.mono hb1.size)).mono z0.out.size)⟩

  · skip
    go_enter Try.func6, Try.ntmps6
    go_wp2_with fail
    rw [hwB'.out]
    refine C.out.mono ?_
    rintro e w1 ⟨rfl, hb1⟩
    obtain ⟨j0, j1, j2, j3, j4⟩ := J.out.kept hb1
    go_wp2_with fail
    refine (D1.out w1 hb1).mono ?_
    rintro e w' ⟨rfl, rfl⟩
    go_wp2_with fail
    refine (D2.out w1 hb1).mono ?_
    rintro e w' ⟨rfl, rfl⟩
    go_wp2_with fail
    go_loop [5, 7, 84] (fun g v i => g = .bool false ∧ v = .slice none 0 0 ∧ i = .int .i64 0) (fun _ _ _ => 0)
    case atStart => exact ⟨by first | rfl | rw [hn1], rfl, rfl⟩
    case round =>
      obtain ⟨rfl, rfl, rfl⟩ := hrel
      go_wp2_with fail
      refine (awake03_any _).mono ?_
      rintro e w9 ⟨rfl, hb9⟩
      go_wp2_with fail
      go_ret
      exact ⟨rfl, z0.out.trans ((hb1.trans (hb9.mono hb1.size)).mono z0.out.size)⟩

set_option maxRecDepth 100000 in
set_option maxHeartbeats 4000000 in
theorem joins_low (a1 : Option Addr) (l1 c1 : Nat) (xs : List Int) (a2 : Option Addr) (c2 : Nat) (ys : List Int) (side : Int) (fr to : Int) (w : World) (h : IntsAt w a1 l1 xs) (h' : IntsAt w a2 l1 ys) (hlen : ¬ 50 < l1) (b1 : rightS xs = true) (b2 : rightS ys = true) (hs : side < 0) :
    Calls Try.prog 6 #[.agg #[.slice a1 l1 c1, .slice a2 l1 c2, .int .i64 side, .int .i64 fr, .int .i64 to]] w fun e w' => e = .returned (.bool true) ∧ Below w.heap.size w w' := by
  have J0 := JAt.made w (.slice a1 l1 c1) (.slice a2 l1 c2) side fr to 39
  have z0' : Below w.heap.size w (w.alloc (.cells #[.slice a1 l1 c1, .slice a2 l1 c2, .int .i64 side, .int .i64 fr, .int .i64 to] 39)) := (Below.refl _ _).alloc (Nat.le_refl _) _
  obtain ⟨wB, hwB⟩ : ∃ wB, w.alloc (.cells #[.slice a1 l1 c1, .slice a2 l1 c2, .int .i64 side, .int .i64 fr, .int .i64 to] 39) = wB := ⟨_, rfl⟩
  rw [hwB] at J0 z0'
  have J := Lib.hid J0
  have z0 := Lib.hid z0'
  have hwB' := Lib.hid hwB
  clear J0 z0' hwB
  have hB := h.kept z0.out
  have hB' := h'.kept z0.out
  clear h h'
  have C := Lib.hid (join_none a1 l1 c1 xs a2 c2 ys side wB hB hB' b1 b2 (hasD_low (by omega)).symm)
  have D1 := Lib.hid (fun w1 (hb : Below wB.heap.size wB w1) => refshape_any a1 l1 c1 xs w1 (hB.kept hb))
  have D2 := Lib.hid (fun w1 (hb : Below wB.heap.size wB w1) => refshape_any a2 l1 c2 ys w1 (hB'.kept hb))
  rw [b1] at D1
  rw [b2] at D2
  clear hB hB' b1 b2
  go_enter Try.func6, Try.ntmps6
  go_wp2_with fail
  rw [hwB'.out]
  refine C.out.mono ?_
  rintro e w1 ⟨rfl, hb1⟩
  obtain ⟨j0, j1, j2, j3, j4⟩ := J.out.kept hb1
  go_wp2_with fail
  refine (D1.out w1 hb1).mono ?_
  rintro e w' ⟨rfl, rfl⟩
  go_wp2_with fail
  refine (D2.out w1 hb1).mono ?_
  rintro e w' ⟨rfl, rfl⟩
  go_wp2_with fail
  refine (awake03_any _).mono ?_
  rintro e w9 ⟨rfl, hb9⟩
  go_wp2_with fail
  go_ret
  exact ⟨rfl, z0.out.trans ((hb1.trans (hb9.mono hb1.size)).mono z0.out.size)⟩

set_option maxRecDepth 100000 in
set_option maxHeartbeats 4000000 in
theorem joins_high (a1 : Option Addr) (l1 c1 : Nat) (xs : List Int) (a2 : Option Addr) (c2 : Nat) (ys : List Int) (side : Int) (fr to : Int) (w : World) (h : IntsAt w a1 l1 xs) (h' : IntsAt w a2 l1 ys) (hlen : ¬ 50 < l1) (b1 : rightS xs = true) (b2 : rightS ys = true) (hs' : ¬ side < 0) (hs : l1 ≤ side) :
    Calls Try.prog 6 #[.agg #[.slice a1 l1 c1, .slice a2 l1 c2, .int .i64 side, .int .i64 fr, .int .i64 to]] w fun e w' => e = .returned (.bool true) ∧ Below w.heap.size w w' := by
  have J0 := JAt.made w (.slice a1 l1 c1) (.slice a2 l1 c2) side fr to 39
  have z0' : Below w.heap.size w (w.alloc (.cells #[.slice a1 l1 c1, .slice a2 l1 c2, .int .i64 side, .int .i64 fr, .int .i64 to] 39)) := (Below.refl _ _).alloc (Nat.le_refl _) _
  obtain ⟨wB, hwB⟩ : ∃ wB, w.alloc (.cells #[.slice a1 l1 c1, .slice a2 l1 c2, .int .i64 side, .int .i64 fr, .int .i64 to] 39) = wB := ⟨_, rfl⟩
  rw [hwB] at J0 z0'
  have J := Lib.hid J0
  have z0 := Lib.hid z0'
  have hwB' := Lib.hid hwB
  clear J0 z0' hwB
  have hB := h.kept z0.out
  have hB' := h'.kept z0.out
  clear h h'
  have C := Lib.hid (join_none a1 l1 c1 xs a2 c2 ys side wB hB hB' b1 b2 (hasD_high (by omega)).symm)
  have D1 := Lib.hid (fun w1 (hb : Below wB.heap.size wB w1) => refshape_any a1 l1 c1 xs w1 (hB.kept hb))
  have D2 := Lib.hid (fun w1 (hb : Below wB.heap.size wB w1) => refshape_any a2 l1 c2 ys w1 (hB'.kept hb))
  rw [b1] at D1
  rw [b2] at D2
  clear hB hB' b1 b2
  have d1 : decide (side < (l1 : Int)) = false := decide_eq_false (by omega)
  go_enter Try.func6, Try.ntmps6
  go_wp2_with fail
  rw [hwB'.out]
  refine C.out.mono ?_
  rintro e w1 ⟨rfl, hb1⟩
  obtain ⟨j0, j1, j2, j3, j4⟩ := J.out.kept hb1
  go_wp2_with fail
  refine (D1.out w1 hb1).mono ?_
  rintro e w' ⟨rfl, rfl⟩
  go_wp2_with fail
  refine (D2.out w1 hb1).mono ?_
  rintro e w' ⟨rfl, rfl⟩
  go_wp2_with fail
  refine (awake03_any _).mono ?_
  rintro e w9 ⟨rfl, hb9⟩
  go_wp2_with fail
  go_ret
  exact ⟨rfl, z0.out.trans ((hb1.trans (hb9.mono hb1.size)).mono z0.out.size)⟩

end Go.Proofs.Ytieajkpjkhdjeaa
