/-
  The walk of the statement ShapePlaces.
-/
import Derived.Test.YtieajkpjkhdjeaaAwake03
import Derived.Test.YtieajkpjkhdjeaaAtW
import Derived.IntWalk
namespace Go.Proofs.Ytieajkpjkhdjeaa
open Go.RowKit
set_option linter.unusedVariables false
set_option linter.unusedSimpArgs false

theorem inB_false (z : List (Int × Int)) (k : Nat) (h : inB (z.take k) = false) : inB (z.take (k + 1)) = false ∧ inB z = false := by
  unfold inB at *
  rw [List.all_eq_false] at h
  obtain ⟨q, hq, hn⟩ := h
  exact ⟨List.all_eq_false.2 ⟨q, by rw [List.take_add_one]; exact List.mem_append_left _ hq, hn⟩, List.all_eq_false.2 ⟨q, List.mem_of_mem_take hq, hn⟩⟩
theorem inB_bad_step (s a : List Int) (k : Nat) (h1 : k < s.length) (h2 : k < a.length) (l : ¬ (0 ≤ a.getD k 0 ∧ a.getD k 0 < s.getD k 0)) : inB ((s.zip a).take (k + 1)) = false := by
  unfold inB
  rw [List.all_eq_false]
  refine ⟨(s.getD k 0, a.getD k 0), by rw [List.take_add_one, zip_getElem? s a k h1 h2]; simp, ?_⟩
  simp only [Bool.and_eq_true, decide_eq_true_eq]
  exact l
theorem atOk_in {s a : List Int} (h : atOk s a = true) : inB (s.zip a) = true := by simp [atOk] at h; exact h.2
theorem atOk_not {s a : List Int} (hl : s.length = a.length) (h : atOk s a = false) : inB (s.zip a) = false := by simpa [atOk, hl] using h
/-- Between two rounds of ShapePlaces. -/
def PlR (xs ys : List Int) (l : Nat) (w2 : World) (g v i : Value) (wr : World) : Prop :=
  ∃ (k n : Nat) (u : Int), k ≤ l ∧ i = .int .i64 k ∧ g = .bool (inB ((xs.zip ys).take k)) ∧ v = .int .i64 u ∧ Hid (inB ((xs.zip ys).take k) = true → u = numP ((xs.zip ys).take k)) ∧ wr = w2.drewN n
theorem placeN_yes {s a : List Int} (h : rightS s = true) (h' : atOk s a = true) : placeN s a = numP (s.zip a) ∧ placeE s a = 0 := ⟨(place_yes h h').1.symm, (place_yes h h').2.symm⟩
theorem placeN_none {s a : List Int} (h : rightS s = true) (h' : atOk s a = false) : placeN s a = 0 ∧ placeE s a = 11 := ⟨(place_none h h').1.symm, (place_none h h').2.symm⟩
theorem placeN_wrong {s a : List Int} (h : rightS s = false) : placeN s a = 0 ∧ placeE s a = 20 := ⟨(place_wrong h).1.symm, (place_wrong h).2.symm⟩

set_option maxRecDepth 100000 in
set_option maxHeartbeats 4000000 in
theorem places_long1 (a1 : Option Addr) (l1 c1 : Nat) (xs : List Int) (a2 : Option Addr) (l2 c2 : Nat) (ys : List Int) (place : Int) (w : World) (h : IntsAt w a1 l1 xs) (h' : IntsAt w a2 l2 ys) (hlen : 50 < l1) :
    Calls Try.prog 4 #[.slice a1 l1 c1, .slice a2 l2 c2, .int .i64 place] w fun e w' => e = .returned (.bool true) ∧ Below w.heap.size w w' := by
  clear h h'
  go_enter Try.func4, Try.ntmps4
  go_wp2_with fail
  refine (awake03_any _).mono ?_
  rintro e w9 ⟨rfl, hb9⟩
  go_wp2_with fail
  go_ret
  exact ⟨rfl, hb9⟩

set_option maxRecDepth 100000 in
set_option maxHeartbeats 4000000 in
theorem places_long2 (a1 : Option Addr) (l1 c1 : Nat) (xs : List Int) (a2 : Option Addr) (l2 c2 : Nat) (ys : List Int) (place : Int) (w : World) (h : IntsAt w a1 l1 xs) (h' : IntsAt w a2 l2 ys) (hlen : ¬ 50 < l1) (hlen2 : 50 < l2) :
    Calls Try.prog 4 #[.slice a1 l1 c1, .slice a2 l2 c2, .int .i64 place] w fun e w' => e = .returned (.bool true) ∧ Below w.heap.size w w' := by
  clear h h'
  go_enter Try.func4, Try.ntmps4
  go_wp2_with fail
  refine (awake03_any _).mono ?_
  rintro e w9 ⟨rfl, hb9⟩
  go_wp2_with fail
  go_ret
  exact ⟨rfl, hb9⟩

set_option maxRecDepth 100000 in
set_option maxHeartbeats 4000000 in
theorem places_wrong (a1 : Option Addr) (l1 c1 : Nat) (xs : List Int) (a2 : Option Addr) (l2 c2 : Nat) (ys : List Int) (place : Int) (w : World) (h : IntsAt w a1 l1 xs) (h' : IntsAt w a2 l2 ys) (hlen : ¬ 50 < l1) (hlen2 : ¬ 50 < l2) (b1 : rightS xs = false) :
    Calls Try.prog 4 #[.slice a1 l1 c1, .slice a2 l2 c2, .int .i64 place] w fun e w' => e = .returned (.bool true) ∧ Below w.heap.size w w' := by
  have C := place_any a1 l1 c1 xs a2 l2 c2 ys w h h'
  rw [(placeN_wrong b1).1, (placeN_wrong b1).2] at C
  have C1 := Lib.hid C
  have E := Lib.hid (fun w1 (hb : Below w.heap.size w w1) => at_wrong a1 l1 c1 xs place w1 (h.kept hb) b1)
  have D := Lib.hid (fun w1 (hb : Below w.heap.size w w1) => refshape_any a1 l1 c1 xs w1 (h.kept hb))
  rw [b1] at D
  clear C h h' b1
  go_enter Try.func4, Try.ntmps4
  go_wp2_with fail
  refine C1.out.mono ?_
  rintro e w1 ⟨rfl, hb1⟩
  go_wp2_with fail
  refine (E.out w1 hb1).mono ?_
  rintro e w2 ⟨rfl, hb2⟩
  replace hb2 := hb1.trans (hb2.mono hb1.size)
  go_wp2_with fail
  refine (D.out w2 hb2).mono ?_
  rintro e w' ⟨rfl, rfl⟩
  go_wp2_with fail
  refine (awake03_any _).mono ?_
  rintro e w9 ⟨rfl, hb9⟩
  go_wp2_with fail
  go_ret
  exact ⟨rfl, hb2.trans (hb9.mono hb2.size)⟩

theorem digs_fits {s : List Int} (h : allR 1 1024 s = true) (p : Int) : Fits (digs s p) := by
  induction s with
  | nil => intro n hn; cases hn
  | cons x s ih =>
    obtain ⟨⟨x1, x2⟩, hs⟩ := allR_cons h
    intro n hn
    simp only [digs, List.mem_cons] at hn
    rcases hn with rfl | hn
    · have := Int.emod_nonneg (p / prodI s) (show x ≠ 0 by omega)
      have := Int.emod_lt_of_pos (p / prodI s) (show 0 < x by omega)
      omega
    · exact ih hs n hn

set_option maxRecDepth 100000 in
set_option maxHeartbeats 4000000 in
theorem places_ne_out (a1 : Option Addr) (l1 c1 : Nat) (xs : List Int) (a2 : Option Addr) (l2 c2 : Nat) (ys : List Int) (place : Int) (w : World) (h : IntsAt w a1 l1 xs) (h' : IntsAt w a2 l2 ys) (hlen : ¬ 50 < l1) (hlen2 : ¬ 50 < l2) (hne : ¬ l2 = l1) (b1 : rightS xs = true) (hp : ¬ (0 ≤ place ∧ place < prodI xs)) :
    Calls Try.prog 4 #[.slice a1 l1 c1, .slice a2 l2 c2, .int .i64 place] w fun e w' => e = .returned (.bool true) ∧ Below w.heap.size w w' := by
  have C := place_any a1 l1 c1 xs a2 l2 c2 ys w h h'
  have b2 : atOk xs ys = false := atOk_len (by have := h.1; have := h'.1; omega)
  rw [(placeN_none b1 b2).1, (placeN_none b1 b2).2] at C
  have C1 := Lib.hid C
  have E := Lib.hid (fun w1 (hb : Below w.heap.size w w1) => at_none a1 l1 c1 xs place w1 (h.kept hb) b1 hp)
  have D := Lib.hid (fun w1 (hb : Below w.heap.size w w1) => refshape_any a1 l1 c1 xs w1 (h.kept hb))
  rw [b1] at D
  have SZ := Lib.hid (fun w1 (hb : Below w.heap.size w w1) => refsize_any a1 l1 c1 xs w1 (h.kept hb) b1)
  have R := (rightS_parts b1).2.2.1
  have RR := Lib.hid R
  have PN := Lib.hid (rightS_parts b1).2.2.2
  have xl := Lib.hid h.1
  have yl := Lib.hid h'.1
  have yf := Lib.hid h'.2.2.1
  have h1H := Lib.hid h
  have h2H := Lib.hid h'
  have hn1 : ((l2 : Int) == (l1 : Int)) = false := beq_eq_false_iff_ne.2 (by omega)
  obtain ⟨t0, ht0⟩ : ∃ t0, numP (xs.zip ys) = t0 := ⟨_, rfl⟩
  obtain ⟨sz, hsz⟩ : ∃ sz, prodI xs = sz := ⟨_, rfl⟩
  rw [hsz] at SZ PN hp
  replace ht0 := Lib.hid ht0
  replace hsz := Lib.hid hsz
  have ml : l1 ≤ 4 := by have := (rightS_parts b1).2.1; rw [xl.out] at this; exact this
  clear C h h' b1 b2 R
  go_enter Try.func4, Try.ntmps4
  go_wp2_with fail
  refine C1.out.mono ?_
  rintro e w1 ⟨rfl, hb1⟩
  go_wp2_with fail
  refine (E.out w1 hb1).mono ?_
  rintro e w2 ⟨rfl, hb2⟩
  replace hb2 := hb1.trans (hb2.mono hb1.size)
  clear hb1
  go_wp2_with fail
  refine (D.out w2 hb2).mono ?_
  rintro e w' ⟨rfl, rfl⟩
  go_wp2_with fail
  go_loop [11, 12, 67] (fun g v i => ∃ k : Nat, k ≤ l2 ∧ i = .int .i64 k ∧ g = .bool false ∧ v = .int .i64 0) (fun _ _ i => l2 - (intOf i).toNat)
  case atStart => exact ⟨0, Nat.zero_le _, rfl, by first | rfl | rw [hn1], rfl⟩
  case round =>
    obtain ⟨k, hk, rfl, rfl, rfl⟩ := hrel
    by_cases hlt : k < l2
    · go_wp2_with fail
      go_round
      case rel => exact ⟨k + 1, by omega, by go_num, rfl, rfl⟩
      case measure => (simp [intOf]; try omega)
    · obtain ⟨n, hn⟩ : ∃ n : Nat, n = 0 := ⟨0, rfl⟩
      rw [show w2 = w2.drewN n by rw [hn]; rfl]
      clear hn
      have hb3 : Below w.heap.size w (w2.drewN n) := below_drewN' hb2 n
      obtain ⟨W, hW⟩ : ∃ W, w2.drewN n = W := ⟨_, rfl⟩
      rw [hW] at hb3 ⊢
      clear hW
      by_cases hpn : place < 0
      · clear hp
        go_wp2_with fail
        refine (awake03_any _).mono ?_
        rintro e w9 ⟨rfl, hb9⟩
        go_wp2_with fail
        go_ret
        exact ⟨rfl, hb3.trans (hb9.mono hb3.size)⟩

      · have hsp : sz ≤ place := by omega
        clear hp
        go_wp2_with fail
        refine (SZ.out W hb3).mono ?_
        rintro e w' ⟨rfl, rfl⟩
        go_wp2_with fail
        refine (awake03_any _).mono ?_
        rintro e w9 ⟨rfl, hb9⟩
        go_wp2_with fail
        go_ret
        exact ⟨rfl, hb3.trans (hb9.mono hb3.size)⟩

set_option maxRecDepth 100000 in
set_option maxHeartbeats 4000000 in
theorem places_ne_in (a1 : Option Addr) (l1 c1 : Nat) (xs : List Int) (a2 : Option Addr) (l2 c2 : Nat) (ys : List Int) (place : Int) (w : World) (h : IntsAt w a1 l1 xs) (h' : IntsAt w a2 l2 ys) (hlen : ¬ 50 < l1) (hlen2 : ¬ 50 < l2) (hne : ¬ l2 = l1) (b1 : rightS xs = true) (hp0 : 0 ≤ place) (hp1 : place < prodI xs) :
    Calls Try.prog 4 #[.slice a1 l1 c1, .slice a2 l2 c2, .int .i64 place] w fun e w' => e = .returned (.bool true) ∧ Below w.heap.size w w' := by
  have C := place_any a1 l1 c1 xs a2 l2 c2 ys w h h'
  have b2 : atOk xs ys = false := atOk_len (by have := h.1; have := h'.1; omega)
  rw [(placeN_none b1 b2).1, (placeN_none b1 b2).2] at C
  have C1 := Lib.hid C
  have E := Lib.hid (fun w1 (hb : Below w.heap.size w w1) => at_ok a1 l1 c1 xs place w1 (h.kept hb) b1 hp0 hp1)
  have D := Lib.hid (fun w1 (hb : Below w.heap.size w w1) => refshape_any a1 l1 c1 xs w1 (h.kept hb))
  rw [b1] at D
  have SZ := Lib.hid (fun w1 (hb : Below w.heap.size w w1) => refsize_any a1 l1 c1 xs w1 (h.kept hb) b1)
  have R := (rightS_parts b1).2.2.1
  have RR := Lib.hid R
  have PN := Lib.hid (rightS_parts b1).2.2.2
  have P2 := fun w1 (hb : Below w.heap.size w w1) A cap (hz : IntsAt w1 A l1 (digs xs place)) => place_any a1 l1 c1 xs A l1 cap (digs xs place) w1 (h.kept hb) hz
  rw [(placeN_yes b1 (digs_ok R place)).1, (placeN_yes b1 (digs_ok R place)).2, digs_num R hp0 hp1] at P2
  have P3 := Lib.hid P2
  have fd := Lib.hid (show Fits (digs xs place) from digs_fits R place)
  have xl := Lib.hid h.1
  have yl := Lib.hid h'.1
  have yf := Lib.hid h'.2.2.1
  have h1H := Lib.hid h
  have h2H := Lib.hid h'
  have hn1 : ((l2 : Int) == (l1 : Int)) = false := beq_eq_false_iff_ne.2 (by omega)
  obtain ⟨t0, ht0⟩ : ∃ t0, numP (xs.zip ys) = t0 := ⟨_, rfl⟩
  obtain ⟨sz, hsz⟩ : ∃ sz, prodI xs = sz := ⟨_, rfl⟩
  rw [hsz] at SZ PN hp1
  replace ht0 := Lib.hid ht0
  replace hsz := Lib.hid hsz
  have ml : l1 ≤ 4 := by have := (rightS_parts b1).2.1; rw [xl.out] at this; exact this
  clear C h h' b1 b2 R P2
  go_enter Try.func4, Try.ntmps4
  go_wp2_with fail
  refine C1.out.mono ?_
  rintro e w1 ⟨rfl, hb1⟩
  go_wp2_with fail
  refine (E.out w1 hb1).mono ?_
  rintro e w2 ⟨A, cA, rfl, hoA, hb2⟩
  have hA := Lib.hid (row_ints hoA (by omega) fd.out)
  clear hoA
  replace hb2 := hb1.trans (hb2.mono hb1.size)
  clear hb1
  go_wp2_with fail
  refine (D.out w2 hb2).mono ?_
  rintro e w' ⟨rfl, rfl⟩
  go_wp2_with fail
  go_loop [11, 12, 67] (fun g v i => ∃ k : Nat, k ≤ l2 ∧ i = .int .i64 k ∧ g = .bool false ∧ v = .int .i64 0) (fun _ _ i => l2 - (intOf i).toNat)
  case atStart => exact ⟨0, Nat.zero_le _, rfl, by first | rfl | rw [hn1], rfl⟩
  case round =>
    obtain ⟨k, hk, rfl, rfl, rfl⟩ := hrel
    by_cases hlt : k < l2
    · go_wp2_with fail
      go_round
      case rel => exact ⟨k + 1, by omega, by go_num, rfl, rfl⟩
      case measure => (simp [intOf]; try omega)
    · obtain ⟨n, hn⟩ : ∃ n : Nat, n = 0 := ⟨0, rfl⟩
      rw [show w2 = w2.drewN n by rw [hn]; rfl]
      clear hn
      have hb3 : Below w.heap.size w (w2.drewN n) := below_drewN' hb2 n
      have hA3 := Lib.hid (hA.out.kept (below_drewN' (Below.refl w2.heap.size w2) n))
      obtain ⟨W, hW⟩ : ∃ W, w2.drewN n = W := ⟨_, rfl⟩
      rw [hW] at hb3 hA3 ⊢
      clear hW
      go_wp2_with fail
      refine (SZ.out W hb3).mono ?_
      rintro e w' ⟨rfl, rfl⟩
      go_wp2_with fail
      refine (P3.out W hb3 A cA hA3.out).mono ?_
      rintro e w6 ⟨rfl, hb6⟩
      replace hb6 := hb3.trans (hb6.mono hb3.size)
      go_wp2_with fail
      refine (awake03_any _).mono ?_
      rintro e w9 ⟨rfl, hb9⟩
      go_wp2_with fail
      go_ret
      exact ⟨rfl, hb6.trans (hb9.mono hb6.size)⟩

set_option maxRecDepth 100000 in
set_option maxHeartbeats 4000000 in
theorem places_bad_out (a1 : Option Addr) (l1 c1 : Nat) (xs : List Int) (a2 : Option Addr) (c2 : Nat) (ys : List Int) (place : Int) (w : World) (h : IntsAt w a1 l1 xs) (h' : IntsAt w a2 l1 ys) (hlen : ¬ 50 < l1) (b1 : rightS xs = true) (b2 : atOk xs ys = false) (hp : ¬ (0 ≤ place ∧ place < prodI xs)) :
    Calls Try.prog 4 #[.slice a1 l1 c1, .slice a2 l1 c2, .int .i64 place] w fun e w' => e = .returned (.bool true) ∧ Below w.heap.size w w' := by
  have C := place_any a1 l1 c1 xs a2 l1 c2 ys w h h'
  rw [(placeN_none b1 b2).1, (placeN_none b1 b2).2] at C
  have C1 := Lib.hid C
  have E := Lib.hid (fun w1 (hb : Below w.heap.size w w1) => at_none a1 l1 c1 xs place w1 (h.kept hb) b1 hp)
  have D := Lib.hid (fun w1 (hb : Below w.heap.size w w1) => refshape_any a1 l1 c1 xs w1 (h.kept hb))
  rw [b1] at D
  have SZ := Lib.hid (fun w1 (hb : Below w.heap.size w w1) => refsize_any a1 l1 c1 xs w1 (h.kept hb) b1)
  have R := (rightS_parts b1).2.2.1
  have RR := Lib.hid R
  have PN := Lib.hid (rightS_parts b1).2.2.2
  have xl := Lib.hid h.1
  have yl := Lib.hid h'.1
  have yf := Lib.hid h'.2.2.1
  have h1H := Lib.hid h
  have h2H := Lib.hid h'
  have zin := Lib.hid (atOk_not (by have := h.1; have := h'.1; omega) b2)
  have hX := Lib.hid h.2.2.2
  have hY := Lib.hid h'.2.2.2
  obtain ⟨t0, ht0⟩ : ∃ t0, numP (xs.zip ys) = t0 := ⟨_, rfl⟩
  obtain ⟨sz, hsz⟩ : ∃ sz, prodI xs = sz := ⟨_, rfl⟩
  rw [hsz] at SZ PN hp
  replace ht0 := Lib.hid ht0
  replace hsz := Lib.hid hsz
  have ml : l1 ≤ 4 := by have := (rightS_parts b1).2.1; rw [xl.out] at this; exact this
  clear C h h' b1 b2 R
  go_enter Try.func4, Try.ntmps4
  go_wp2_with fail
  refine C1.out.mono ?_
  rintro e w1 ⟨rfl, hb1⟩
  go_wp2_with fail
  refine (E.out w1 hb1).mono ?_
  rintro e w2 ⟨rfl, hb2⟩
  replace hb2 := hb1.trans (hb2.mono hb1.size)
  clear hb1
  go_wp2_with fail
  refine (D.out w2 hb2).mono ?_
  rintro e w' ⟨rfl, rfl⟩
  go_wp2_with fail
  go_loopw [11, 12, 67] (fun g v i wr => PlR xs ys l1 w2 g v i wr) (fun _ _ i _ => l1 - (intOf i).toNat)
  case atStart => exact ⟨0, 0, 0, Nat.zero_le _, rfl, by first | rfl | simp [inB], rfl, Lib.hid (fun _ => rfl), rfl⟩
  case round =>
    obtain ⟨k, n, u, hk, rfl, rfl, rfl, hu, rfl⟩ := hrel
    by_cases hlt : k < l1
    · cases c : inB ((xs.zip ys).take k)
      · have c2 := Lib.hid (inB_false _ k c)
        replace c := Lib.hid c
        go_wp2_with fail
        go_roundw
        case rel => exact ⟨k + 1, _, _, by omega, by go_num, by rw [c2.out.1], rfl, (by show _ → _; intro h; rw [c2.out.1] at h; cases h), rfl⟩
        case measure => (simp [intOf]; try omega)
      · obtain ⟨b, off, ha1, hc⟩ : ∃ b off, a1 = some ⟨b, off, none⟩ ∧ ∀ j, j < l1 → w.cell? ⟨b, off + j, none⟩ = some (.int .i64 (xs.getD j 0)) := by
          rcases hX.out with h4 | ⟨b, off, ha, hc⟩
          · omega
          · exact ⟨b, off, ha, hc⟩
        obtain ⟨b', off', ha2, hc'⟩ : ∃ b off, a2 = some ⟨b, off, none⟩ ∧ ∀ j, j < l1 → w.cell? ⟨b, off + j, none⟩ = some (.int .i64 (ys.getD j 0)) := by
          rcases hY.out with h4 | ⟨b, off, ha, hc⟩
          · omega
          · exact ⟨b, off, ha, hc⟩
        have e1 : (w2.drewN n).cell? ⟨b, off + k, none⟩ = _ := cell_later (below_drewN' hb2 n) (hc k hlt)
        have e2 : (w2.drewN n).cell? ⟨b', off' + k, none⟩ = _ := cell_later (below_drewN' hb2 n) (hc' k hlt)
        subst ha1 ha2
        clear hc hc'
        have k1 : k < xs.length := by rw [xl.out]; exact hlt
        have k2 : k < ys.length := by rw [yl.out]; exact hlt
        have S := Lib.hid (inB_step xs ys k k1 k2 c)
        have T := Lib.hid (inB_bad_step xs ys k k1 k2)
        have N := Lib.hid (numP_step xs ys k k1 k2)
        obtain ⟨q1, q2⟩ := numP_take xs ys (by rw [xl.out, yl.out]) RR.out k (by omega) c
        have q3 := prodI_take_le RR.out k
        rw [hsz.out] at q3
        have q4 := PN.out
        obtain rfl := hu.out c
        clear hu
        obtain ⟨x1, x2⟩ := allR_getD RR.out k k1
        obtain ⟨y1, y2⟩ := yf.out.getD k
        generalize xs.getD k 0 = x at *
        generalize ys.getD k 0 = y at *
        generalize numP ((xs.zip ys).take k) = t at *
        have t1 : t ≤ 65536 := by omega
        have m1 : t * x ≤ 65536 * 1024 := Int.mul_le_mul t1 x2 (by omega) (by omega)
        have m2 : 0 ≤ t * x := Int.mul_nonneg q1 (by omega)
        obtain ⟨W, hW⟩ : ∃ W, w2.drewN n = W := ⟨_, rfl⟩
        rw [hW] at e1 e2 ⊢
        replace hW := Lib.hid hW
        replace c := Lib.hid c
        by_cases d1 : y < 0
        · have T2 := Lib.hid (T.out (by omega))
          have f1 : decide (0 ≤ y) = false := decide_eq_false (by omega)
          have r1 : IntKind.i64.wrap (t * x) = t * x := IntWalk.i64_in _ (by omega)
          have r2 : IntKind.i64.wrap (t * x + y) = t * x + y := IntWalk.i64_in _ (by omega)
          clear S T q2 q3 q4 hX hY
          go_wp2_with fail
          go_quiet (fail)
          go_wp2_with fail
          go_quiet (fail)
          clear r1 r2
          go_wp2_with fail
          go_roundw
          case rel => exact ⟨k + 1, _, _, by omega, by go_num, by rw [T2.out], rfl, (by show _ → _; intro h; rw [T2.out] at h; cases h), by rw [← hW.out, World.drewN_drewN]⟩
          case measure => (simp [intOf]; try omega)
        by_cases d2 : x ≤ y
        · have T2 := Lib.hid (T.out (by omega))
          have f1 : decide (0 ≤ y) = true := decide_eq_true (by omega)
          have f2 : decide (y < x) = false := decide_eq_false (by omega)
          have r1 : IntKind.i64.wrap (t * x) = t * x := IntWalk.i64_in _ (by omega)
          clear S T q2 q3 q4 hX hY
          go_wp2_with fail
          go_quiet (fail)
          go_wp2_with fail
          go_quiet (fail)
          clear r1
          go_wp2_with fail
          go_roundw
          case rel => exact ⟨k + 1, _, _, by omega, by go_num, by rw [T2.out], rfl, (by show _ → _; intro h; rw [T2.out] at h; cases h), by rw [← hW.out, World.drewN_drewN]⟩
          case measure => (simp [intOf]; try omega)
        · have S2 := Lib.hid (S.out (by omega) (by omega))
          have f1 : decide (0 ≤ y) = true := decide_eq_true (by omega)
          have f2 : decide (y < x) = true := decide_eq_true (by omega)
          have r1 : IntKind.i64.wrap (t * x) = t * x := IntWalk.i64_in _ (by omega)
          have r2 : IntKind.i64.wrap (t * x + y) = t * x + y := IntWalk.i64_in _ (by omega)
          clear S T q2 q3 q4 hX hY
          go_wp2_with fail
          go_quiet (fail)
          go_wp2_with fail
          go_quiet (fail)
          clear r1 r2
          go_wp2_with fail
          go_roundw
          case rel => exact ⟨k + 1, _, _, by omega, by go_num, by rw [S2.out], rfl, (by show _ → _; intro _; rw [N.out]), by rw [← hW.out, World.drewN_drewN]⟩
          case measure => (simp [intOf]; try omega)
    · have ez : (xs.zip ys).take k = xs.zip ys := take_zip_full k (by rw [xl.out]; omega)
      rw [ez] at hu ⊢
      rw [zin.out]
      clear ez hu
      have hb3 : Below w.heap.size w (w2.drewN n) := below_drewN' hb2 n
      obtain ⟨W, hW⟩ : ∃ W, w2.drewN n = W := ⟨_, rfl⟩
      rw [hW] at hb3 ⊢
      clear hW
      by_cases hpn : place < 0
      · clear hp
        go_wp2_with fail
        refine (awake03_any _).mono ?_
        rintro e w9 ⟨rfl, hb9⟩
        go_wp2_with fail
        go_ret
        exact ⟨rfl, hb3.trans (hb9.mono hb3.size)⟩

      · have hsp : sz ≤ place := by omega
        clear hp
        go_wp2_with fail
        refine (SZ.out W hb3).mono ?_
        rintro e w' ⟨rfl, rfl⟩
        go_wp2_with fail
        refine (awake03_any _).mono ?_
        rintro e w9 ⟨rfl, hb9⟩
        go_wp2_with fail
        go_ret
        exact ⟨rfl, hb3.trans (hb9.mono hb3.size)⟩

set_option maxRecDepth 100000 in
set_option maxHeartbeats 4000000 in
theorem places_bad_in (a1 : Option Addr) (l1 c1 : Nat) (xs : List Int) (a2 : Option Addr) (c2 : Nat) (ys : List Int) (place : Int) (w : World) (h : IntsAt w a1 l1 xs) (h' : IntsAt w a2 l1 ys) (hlen : ¬ 50 < l1) (b1 : rightS xs = true) (b2 : atOk xs ys = false) (hp0 : 0 ≤ place) (hp1 : place < prodI xs) :
    Calls Try.prog 4 #[.slice a1 l1 c1, .slice a2 l1 c2, .int .i64 place] w fun e w' => e = .returned (.bool true) ∧ Below w.heap.size w w' := by
  have C := place_any a1 l1 c1 xs a2 l1 c2 ys w h h'
  rw [(placeN_none b1 b2).1, (placeN_none b1 b2).2] at C
  have C1 := Lib.hid C
  have E := Lib.hid (fun w1 (hb : Below w.heap.size w w1) => at_ok a1 l1 c1 xs place w1 (h.kept hb) b1 hp0 hp1)
  have D := Lib.hid (fun w1 (hb : Below w.heap.size w w1) => refshape_any a1 l1 c1 xs w1 (h.kept hb))
  rw [b1] at D
  have SZ := Lib.hid (fun w1 (hb : Below w.heap.size w w1) => refsize_any a1 l1 c1 xs w1 (h.kept hb) b1)
  have R := (rightS_parts b1).2.2.1
  have RR := Lib.hid R
  have PN := Lib.hid (rightS_parts b1).2.2.2
  have P2 := fun w1 (hb : Below w.heap.size w w1) A cap (hz : IntsAt w1 A l1 (digs xs place)) => place_any a1 l1 c1 xs A l1 cap (digs xs place) w1 (h.kept hb) hz
  rw [(placeN_yes b1 (digs_ok R place)).1, (placeN_yes b1 (digs_ok R place)).2, digs_num R hp0 hp1] at P2
  have P3 := Lib.hid P2
  have fd := Lib.hid (show Fits (digs xs place) from digs_fits R place)
  have xl := Lib.hid h.1
  have yl := Lib.hid h'.1
  have yf := Lib.hid h'.2.2.1
  have h1H := Lib.hid h
  have h2H := Lib.hid h'
  have zin := Lib.hid (atOk_not (by have := h.1; have := h'.1; omega) b2)
  have hX := Lib.hid h.2.2.2
  have hY := Lib.hid h'.2.2.2
  obtain ⟨t0, ht0⟩ : ∃ t0, numP (xs.zip ys) = t0 := ⟨_, rfl⟩
  obtain ⟨sz, hsz⟩ : ∃ sz, prodI xs = sz := ⟨_, rfl⟩
  rw [hsz] at SZ PN hp1
  replace ht0 := Lib.hid ht0
  replace hsz := Lib.hid hsz
  have ml : l1 ≤ 4 := by have := (rightS_parts b1).2.1; rw [xl.out] at this; exact this
  clear C h h' b1 b2 R P2
  go_enter Try.func4, Try.ntmps4
  go_wp2_with fail
  refine C1.out.mono ?_
  rintro e w1 ⟨rfl, hb1⟩
  go_wp2_with fail
  refine (E.out w1 hb1).mono ?_
  rintro e w2 ⟨A, cA, rfl, hoA, hb2⟩
  have hA := Lib.hid (row_ints hoA (by omega) fd.out)
  clear hoA
  replace hb2 := hb1.trans (hb2.mono hb1.size)
  clear hb1
  go_wp2_with fail
  refine (D.out w2 hb2).mono ?_
  rintro e w' ⟨rfl, rfl⟩
  go_wp2_with fail
  go_loopw [11, 12, 67] (fun g v i wr => PlR xs ys l1 w2 g v i wr) (fun _ _ i _ => l1 - (intOf i).toNat)
  case atStart => exact ⟨0, 0, 0, Nat.zero_le _, rfl, by first | rfl | simp [inB], rfl, Lib.hid (fun _ => rfl), rfl⟩
  case round =>
    obtain ⟨k, n, u, hk, rfl, rfl, rfl, hu, rfl⟩ := hrel
    by_cases hlt : k < l1
    · cases c : inB ((xs.zip ys).take k)
      · have c2 := Lib.hid (inB_false _ k c)
        replace c := Lib.hid c
        go_wp2_with fail
        go_roundw
        case rel => exact ⟨k + 1, _, _, by omega, by go_num, by rw [c2.out.1], rfl, (by show _ → _; intro h; rw [c2.out.1] at h; cases h), rfl⟩
        case measure => (simp [intOf]; try omega)
      · obtain ⟨b, off, ha1, hc⟩ : ∃ b off, a1 = some ⟨b, off, none⟩ ∧ ∀ j, j < l1 → w.cell? ⟨b, off + j, none⟩ = some (.int .i64 (xs.getD j 0)) := by
          rcases hX.out with h4 | ⟨b, off, ha, hc⟩
          · omega
          · exact ⟨b, off, ha, hc⟩
        obtain ⟨b', off', ha2, hc'⟩ : ∃ b off, a2 = some ⟨b, off, none⟩ ∧ ∀ j, j < l1 → w.cell? ⟨b, off + j, none⟩ = some (.int .i64 (ys.getD j 0)) := by
          rcases hY.out with h4 | ⟨b, off, ha, hc⟩
          · omega
          · exact ⟨b, off, ha, hc⟩
        have e1 : (w2.drewN n).cell? ⟨b, off + k, none⟩ = _ := cell_later (below_drewN' hb2 n) (hc k hlt)
        have e2 : (w2.drewN n).cell? ⟨b', off' + k, none⟩ = _ := cell_later (below_drewN' hb2 n) (hc' k hlt)
        subst ha1 ha2
        clear hc hc'
        have k1 : k < xs.length := by rw [xl.out]; exact hlt
        have k2 : k < ys.length := by rw [yl.out]; exact hlt
        have S := Lib.hid (inB_step xs ys k k1 k2 c)
        have T := Lib.hid (inB_bad_step xs ys k k1 k2)
        have N := Lib.hid (numP_step xs ys k k1 k2)
        obtain ⟨q1, q2⟩ := numP_take xs ys (by rw [xl.out, yl.out]) RR.out k (by omega) c
        have q3 := prodI_take_le RR.out k
        rw [hsz.out] at q3
        have q4 := PN.out
        obtain rfl := hu.out c
        clear hu
        obtain ⟨x1, x2⟩ := allR_getD RR.out k k1
        obtain ⟨y1, y2⟩ := yf.out.getD k
        generalize xs.getD k 0 = x at *
        generalize ys.getD k 0 = y at *
        generalize numP ((xs.zip ys).take k) = t at *
        have t1 : t ≤ 65536 := by omega
        have m1 : t * x ≤ 65536 * 1024 := Int.mul_le_mul t1 x2 (by omega) (by omega)
        have m2 : 0 ≤ t * x := Int.mul_nonneg q1 (by omega)
        obtain ⟨W, hW⟩ : ∃ W, w2.drewN n = W := ⟨_, rfl⟩
        rw [hW] at e1 e2 ⊢
        replace hW := Lib.hid hW
        replace c := Lib.hid c
        by_cases d1 : y < 0
        · have T2 := Lib.hid (T.out (by omega))
          have f1 : decide (0 ≤ y) = false := decide_eq_false (by omega)
          have r1 : IntKind.i64.wrap (t * x) = t * x := IntWalk.i64_in _ (by omega)
          have r2 : IntKind.i64.wrap (t * x + y) = t * x + y := IntWalk.i64_in _ (by omega)
          clear S T q2 q3 q4 hX hY
          go_wp2_with fail
          go_quiet (fail)
          go_wp2_with fail
          go_quiet (fail)
          clear r1 r2
          go_wp2_with fail
          go_roundw
          case rel => exact ⟨k + 1, _, _, by omega, by go_num, by rw [T2.out], rfl, (by show _ → _; intro h; rw [T2.out] at h; cases h), by rw [← hW.out, World.drewN_drewN]⟩
          case measure => (simp [intOf]; try omega)
        by_cases d2 : x ≤ y
        · have T2 := Lib.hid (T.out (by omega))
          have f1 : decide (0 ≤ y) = true := decide_eq_true (by omega)
          have f2 : decide (y < x) = false := decide_eq_false (by omega)
          have r1 : IntKind.i64.wrap (t * x) = t * x := IntWalk.i64_in _ (by omega)
          clear S T q2 q3 q4 hX hY
          go_wp2_with fail
          go_quiet (fail)
          go_wp2_with fail
          go_quiet (fail)
          clear r1
          go_wp2_with fail
          go_roundw
          case rel => exact ⟨k + 1, _, _, by omega, by go_num, by rw [T2.out], rfl, (by show _ → _; intro h; rw [T2.out] at h; cases h), by rw [← hW.out, World.drewN_drewN]⟩
          case measure => (simp [intOf]; try omega)
        · have S2 := Lib.hid (S.out (by omega) (by omega))
          have f1 : decide (0 ≤ y) = true := decide_eq_true (by omega)
          have f2 : decide (y < x) = true := decide_eq_true (by omega)
          have r1 : IntKind.i64.wrap (t * x) = t * x := IntWalk.i64_in _ (by omega)
          have r2 : IntKind.i64.wrap (t * x + y) = t * x + y := IntWalk.i64_in _ (by omega)
          clear S T q2 q3 q4 hX hY
          go_wp2_with fail
          go_quiet (fail)
          go_wp2_with fail
          go_quiet (fail)
          clear r1 r2
          go_wp2_with fail
          go_roundw
          case rel => exact ⟨k + 1, _, _, by omega, by go_num, by rw [S2.out], rfl, (by show _ → _; intro _; rw [N.out]), by rw [← hW.out, World.drewN_drewN]⟩
          case measure => (simp [intOf]; try omega)
    · have ez : (xs.zip ys).take k = xs.zip ys := take_zip_full k (by rw [xl.out]; omega)
      rw [ez] at hu ⊢
      rw [zin.out]
      clear ez hu
      have hb3 : Below w.heap.size w (w2.drewN n) := below_drewN' hb2 n
      have hA3 := Lib.hid (hA.out.kept (below_drewN' (Below.refl w2.heap.size w2) n))
      obtain ⟨W, hW⟩ : ∃ W, w2.drewN n = W := ⟨_, rfl⟩
      rw [hW] at hb3 hA3 ⊢
      clear hW
      go_wp2_with fail
      refine (SZ.out W hb3).mono ?_
      rintro e w' ⟨rfl, rfl⟩
      go_wp2_with fail
      refine (P3.out W hb3 A cA hA3.out).mono ?_
      rintro e w6 ⟨rfl, hb6⟩
      replace hb6 := hb3.trans (hb6.mono hb3.size)
      go_wp2_with fail
      refine (awake03_any _).mono ?_
      rintro e w9 ⟨rfl, hb9⟩
      go_wp2_with fail
      go_ret
      exact ⟨rfl, hb6.trans (hb9.mono hb6.size)⟩

set_option maxRecDepth 100000 in
set_option maxHeartbeats 4000000 in
theorem places_ok_out (a1 : Option Addr) (l1 c1 : Nat) (xs : List Int) (a2 : Option Addr) (c2 : Nat) (ys : List Int) (place : Int) (w : World) (h : IntsAt w a1 l1 xs) (h' : IntsAt w a2 l1 ys) (hlen : ¬ 50 < l1) (b1 : rightS xs = true) (b2 : atOk xs ys = true) (hp : ¬ (0 ≤ place ∧ place < prodI xs)) :
    Calls Try.prog 4 #[.slice a1 l1 c1, .slice a2 l1 c2, .int .i64 place] w fun e w' => e = .returned (.bool true) ∧ Below w.heap.size w w' := by
  have C := place_any a1 l1 c1 xs a2 l1 c2 ys w h h'
  rw [(placeN_yes b1 b2).1, (placeN_yes b1 b2).2] at C
  have C1 := Lib.hid C
  have E := Lib.hid (fun w1 (hb : Below w.heap.size w w1) => at_none a1 l1 c1 xs place w1 (h.kept hb) b1 hp)
  have D := Lib.hid (fun w1 (hb : Below w.heap.size w w1) => refshape_any a1 l1 c1 xs w1 (h.kept hb))
  rw [b1] at D
  have SZ := Lib.hid (fun w1 (hb : Below w.heap.size w w1) => refsize_any a1 l1 c1 xs w1 (h.kept hb) b1)
  have R := (rightS_parts b1).2.2.1
  have RR := Lib.hid R
  have PN := Lib.hid (rightS_parts b1).2.2.2
  obtain ⟨nl1, nl2⟩ := numP_lt b1 b2
  have AT2 := Lib.hid (fun w1 (hb : Below w.heap.size w w1) => at_ok a1 l1 c1 xs (numP (xs.zip ys)) w1 (h.kept hb) b1 nl1 nl2)
  rw [num_digs R b2] at AT2
  have xl := Lib.hid h.1
  have yl := Lib.hid h'.1
  have yf := Lib.hid h'.2.2.1
  have h1H := Lib.hid h
  have h2H := Lib.hid h'
  have zin := Lib.hid (atOk_in b2)
  have hX := Lib.hid h.2.2.2
  have hY := Lib.hid h'.2.2.2
  obtain ⟨t0, ht0⟩ : ∃ t0, numP (xs.zip ys) = t0 := ⟨_, rfl⟩
  obtain ⟨sz, hsz⟩ : ∃ sz, prodI xs = sz := ⟨_, rfl⟩
  rw [hsz] at SZ PN nl2 hp
  rw [ht0] at C1 AT2 nl1 nl2
  replace ht0 := Lib.hid ht0
  replace hsz := Lib.hid hsz
  have ml : l1 ≤ 4 := by have := (rightS_parts b1).2.1; rw [xl.out] at this; exact this
  clear C h h' b1 b2 R
  go_enter Try.func4, Try.ntmps4
  go_wp2_with fail
  refine C1.out.mono ?_
  rintro e w1 ⟨rfl, hb1⟩
  go_wp2_with fail
  refine (E.out w1 hb1).mono ?_
  rintro e w2 ⟨rfl, hb2⟩
  replace hb2 := hb1.trans (hb2.mono hb1.size)
  clear hb1
  go_wp2_with fail
  refine (D.out w2 hb2).mono ?_
  rintro e w' ⟨rfl, rfl⟩
  go_wp2_with fail
  go_loopw [11, 12, 67] (fun g v i wr => PlR xs ys l1 w2 g v i wr) (fun _ _ i _ => l1 - (intOf i).toNat)
  case atStart => exact ⟨0, 0, 0, Nat.zero_le _, rfl, by first | rfl | simp [inB], rfl, Lib.hid (fun _ => rfl), rfl⟩
  case round =>
    obtain ⟨k, n, u, hk, rfl, rfl, rfl, hu, rfl⟩ := hrel
    by_cases hlt : k < l1
    · cases c : inB ((xs.zip ys).take k)
      · have c2 := Lib.hid (inB_false _ k c)
        replace c := Lib.hid c
        go_wp2_with fail
        go_roundw
        case rel => exact ⟨k + 1, _, _, by omega, by go_num, by rw [c2.out.1], rfl, (by show _ → _; intro h; rw [c2.out.1] at h; cases h), rfl⟩
        case measure => (simp [intOf]; try omega)
      · obtain ⟨b, off, ha1, hc⟩ : ∃ b off, a1 = some ⟨b, off, none⟩ ∧ ∀ j, j < l1 → w.cell? ⟨b, off + j, none⟩ = some (.int .i64 (xs.getD j 0)) := by
          rcases hX.out with h4 | ⟨b, off, ha, hc⟩
          · omega
          · exact ⟨b, off, ha, hc⟩
        obtain ⟨b', off', ha2, hc'⟩ : ∃ b off, a2 = some ⟨b, off, none⟩ ∧ ∀ j, j < l1 → w.cell? ⟨b, off + j, none⟩ = some (.int .i64 (ys.getD j 0)) := by
          rcases hY.out with h4 | ⟨b, off, ha, hc⟩
          · omega
          · exact ⟨b, off, ha, hc⟩
        have e1 : (w2.drewN n).cell? ⟨b, off + k, none⟩ = _ := cell_later (below_drewN' hb2 n) (hc k hlt)
        have e2 : (w2.drewN n).cell? ⟨b', off' + k, none⟩ = _ := cell_later (below_drewN' hb2 n) (hc' k hlt)
        subst ha1 ha2
        clear hc hc'
        have k1 : k < xs.length := by rw [xl.out]; exact hlt
        have k2 : k < ys.length := by rw [yl.out]; exact hlt
        have S := Lib.hid (inB_step xs ys k k1 k2 c)
        have T := Lib.hid (inB_bad_step xs ys k k1 k2)
        have N := Lib.hid (numP_step xs ys k k1 k2)
        obtain ⟨q1, q2⟩ := numP_take xs ys (by rw [xl.out, yl.out]) RR.out k (by omega) c
        have q3 := prodI_take_le RR.out k
        rw [hsz.out] at q3
        have q4 := PN.out
        obtain rfl := hu.out c
        clear hu
        obtain ⟨x1, x2⟩ := allR_getD RR.out k k1
        obtain ⟨y1, y2⟩ := yf.out.getD k
        generalize xs.getD k 0 = x at *
        generalize ys.getD k 0 = y at *
        generalize numP ((xs.zip ys).take k) = t at *
        have t1 : t ≤ 65536 := by omega
        have m1 : t * x ≤ 65536 * 1024 := Int.mul_le_mul t1 x2 (by omega) (by omega)
        have m2 : 0 ≤ t * x := Int.mul_nonneg q1 (by omega)
        obtain ⟨W, hW⟩ : ∃ W, w2.drewN n = W := ⟨_, rfl⟩
        rw [hW] at e1 e2 ⊢
        replace hW := Lib.hid hW
        replace c := Lib.hid c
        by_cases d1 : y < 0
        · have T2 := Lib.hid (T.out (by omega))
          have f1 : decide (0 ≤ y) = false := decide_eq_false (by omega)
          have r1 : IntKind.i64.wrap (t * x) = t * x := IntWalk.i64_in _ (by omega)
          have r2 : IntKind.i64.wrap (t * x + y) = t * x + y := IntWalk.i64_in _ (by omega)
          clear S T q2 q3 q4 hX hY
          go_wp2_with fail
          go_quiet (fail)
          go_wp2_with fail
          go_quiet (fail)
          clear r1 r2
          go_wp2_with fail
          go_roundw
          case rel => exact ⟨k + 1, _, _, by omega, by go_num, by rw [T2.out], rfl, (by show _ → _; intro h; rw [T2.out] at h; cases h), by rw [← hW.out, World.drewN_drewN]⟩
          case measure => (simp [intOf]; try omega)
        by_cases d2 : x ≤ y
        · have T2 := Lib.hid (T.out (by omega))
          have f1 : decide (0 ≤ y) = true := decide_eq_true (by omega)
          have f2 : decide (y < x) = false := decide_eq_false (by omega)
          have r1 : IntKind.i64.wrap (t * x) = t * x := IntWalk.i64_in _ (by omega)
          clear S T q2 q3 q4 hX hY
          go_wp2_with fail
          go_quiet (fail)
          go_wp2_with fail
          go_quiet (fail)
          clear r1
          go_wp2_with fail
          go_roundw
          case rel => exact ⟨k + 1, _, _, by omega, by go_num, by rw [T2.out], rfl, (by show _ → _; intro h; rw [T2.out] at h; cases h), by rw [← hW.out, World.drewN_drewN]⟩
          case measure => (simp [intOf]; try omega)
        · have S2 := Lib.hid (S.out (by omega) (by omega))
          have f1 : decide (0 ≤ y) = true := decide_eq_true (by omega)
          have f2 : decide (y < x) = true := decide_eq_true (by omega)
          have r1 : IntKind.i64.wrap (t * x) = t * x := IntWalk.i64_in _ (by omega)
          have r2 : IntKind.i64.wrap (t * x + y) = t * x + y := IntWalk.i64_in _ (by omega)
          clear S T q2 q3 q4 hX hY
          go_wp2_with fail
          go_quiet (fail)
          go_wp2_with fail
          go_quiet (fail)
          clear r1 r2
          go_wp2_with fail
          go_roundw
          case rel => exact ⟨k + 1, _, _, by omega, by go_num, by rw [S2.out], rfl, (by show _ → _; intro _; rw [N.out]), by rw [← hW.out, World.drewN_drewN]⟩
          case measure => (simp [intOf]; try omega)
    · have ez : (xs.zip ys).take k = xs.zip ys := take_zip_full k (by rw [xl.out]; omega)
      rw [ez] at hu ⊢
      rw [zin.out]
      have hu2 := hu.out zin.out
      rw [ht0.out] at hu2
      subst hu2
      clear ez hu
      have hb3 : Below w.heap.size w (w2.drewN n) := below_drewN' hb2 n
      obtain ⟨W, hW⟩ : ∃ W, w2.drewN n = W := ⟨_, rfl⟩
      rw [hW] at hb3 ⊢
      clear hW
      by_cases hpn : place < 0
      · clear hp
        go_wp2_with fail
        refine (AT2.out W hb3).mono ?_
        rintro e w4 ⟨A4, c4, rfl, ho4, hb4⟩
        have hz4 := Lib.hid (row_ints ho4 (by omega) yf.out)
        replace hb4 := hb3.trans (hb4.mono hb3.size)
        clear ho4
        have L := same_any A4 l1 c4 ys a2 l1 c2 ys w4 hz4.out (h2H.out.kept hb4)
        rw [sameL_self] at L
        have L2 := Lib.hid L
        clear L
        go_wp2_with fail
        refine L2.out.mono ?_
        rintro e w5 ⟨rfl, n5, hn5⟩
        have hb5 : Below w.heap.size w w5 := by rw [hn5]; exact below_drewN' hb4 n5
        clear hn5
        go_wp2_with fail
        refine (awake03_any _).mono ?_
        rintro e w9 ⟨rfl, hb9⟩
        go_wp2_with fail
        go_ret
        exact ⟨rfl, hb5.trans (hb9.mono hb5.size)⟩

      · have hsp : sz ≤ place := by omega
        clear hp
        go_wp2_with fail
        refine (AT2.out W hb3).mono ?_
        rintro e w4 ⟨A4, c4, rfl, ho4, hb4⟩
        have hz4 := Lib.hid (row_ints ho4 (by omega) yf.out)
        replace hb4 := hb3.trans (hb4.mono hb3.size)
        clear ho4
        have L := same_any A4 l1 c4 ys a2 l1 c2 ys w4 hz4.out (h2H.out.kept hb4)
        rw [sameL_self] at L
        have L2 := Lib.hid L
        clear L
        go_wp2_with fail
        refine L2.out.mono ?_
        rintro e w5 ⟨rfl, n5, hn5⟩
        have hb5 : Below w.heap.size w w5 := by rw [hn5]; exact below_drewN' hb4 n5
        clear hn5
        go_wp2_with fail
        refine (SZ.out w5 hb5).mono ?_
        rintro e w' ⟨rfl, rfl⟩
        go_wp2_with fail
        refine (awake03_any _).mono ?_
        rintro e w9 ⟨rfl, hb9⟩
        go_wp2_with fail
        go_ret
        exact ⟨rfl, hb5.trans (hb9.mono hb5.size)⟩

set_option maxRecDepth 100000 in
set_option maxHeartbeats 4000000 in
theorem places_ok_in (a1 : Option Addr) (l1 c1 : Nat) (xs : List Int) (a2 : Option Addr) (c2 : Nat) (ys : List Int) (place : Int) (w : World) (h : IntsAt w a1 l1 xs) (h' : IntsAt w a2 l1 ys) (hlen : ¬ 50 < l1) (b1 : rightS xs = true) (b2 : atOk xs ys = true) (hp0 : 0 ≤ place) (hp1 : place < prodI xs) :
    Calls Try.prog 4 #[.slice a1 l1 c1, .slice a2 l1 c2, .int .i64 place] w fun e w' => e = .returned (.bool true) ∧ Below w.heap.size w w' := by
  have C := place_any a1 l1 c1 xs a2 l1 c2 ys w h h'
  rw [(placeN_yes b1 b2).1, (placeN_yes b1 b2).2] at C
  have C1 := Lib.hid C
  have E := Lib.hid (fun w1 (hb : Below w.heap.size w w1) => at_ok a1 l1 c1 xs place w1 (h.kept hb) b1 hp0 hp1)
  have D := Lib.hid (fun w1 (hb : Below w.heap.size w w1) => refshape_any a1 l1 c1 xs w1 (h.kept hb))
  rw [b1] at D
  have SZ := Lib.hid (fun w1 (hb : Below w.heap.size w w1) => refsize_any a1 l1 c1 xs w1 (h.kept hb) b1)
  have R := (rightS_parts b1).2.2.1
  have RR := Lib.hid R
  have PN := Lib.hid (rightS_parts b1).2.2.2
  obtain ⟨nl1, nl2⟩ := numP_lt b1 b2
  have AT2 := Lib.hid (fun w1 (hb : Below w.heap.size w w1) => at_ok a1 l1 c1 xs (numP (xs.zip ys)) w1 (h.kept hb) b1 nl1 nl2)
  rw [num_digs R b2] at AT2
  have P2 := fun w1 (hb : Below w.heap.size w w1) A cap (hz : IntsAt w1 A l1 (digs xs place)) => place_any a1 l1 c1 xs A l1 cap (digs xs place) w1 (h.kept hb) hz
  rw [(placeN_yes b1 (digs_ok R place)).1, (placeN_yes b1 (digs_ok R place)).2, digs_num R hp0 hp1] at P2
  have P3 := Lib.hid P2
  have fd := Lib.hid (show Fits (digs xs place) from digs_fits R place)
  have xl := Lib.hid h.1
  have yl := Lib.hid h'.1
  have yf := Lib.hid h'.2.2.1
  have h1H := Lib.hid h
  have h2H := Lib.hid h'
  have zin := Lib.hid (atOk_in b2)
  have hX := Lib.hid h.2.2.2
  have hY := Lib.hid h'.2.2.2
  obtain ⟨t0, ht0⟩ : ∃ t0, numP (xs.zip ys) = t0 := ⟨_, rfl⟩
  obtain ⟨sz, hsz⟩ : ∃ sz, prodI xs = sz := ⟨_, rfl⟩
  rw [hsz] at SZ PN nl2 hp1
  rw [ht0] at C1 AT2 nl1 nl2
  replace ht0 := Lib.hid ht0
  replace hsz := Lib.hid hsz
  have ml : l1 ≤ 4 := by have := (rightS_parts b1).2.1; rw [xl.out] at this; exact this
  clear C h h' b1 b2 R P2
  go_enter Try.func4, Try.ntmps4
  go_wp2_with fail
  refine C1.out.mono ?_
  rintro e w1 ⟨rfl, hb1⟩
  go_wp2_with fail
  refine (E.out w1 hb1).mono ?_
  rintro e w2 ⟨A, cA, rfl, hoA, hb2⟩
  have hA := Lib.hid (row_ints hoA (by omega) fd.out)
  clear hoA
  replace hb2 := hb1.trans (hb2.mono hb1.size)
  clear hb1
  go_wp2_with fail
  refine (D.out w2 hb2).mono ?_
  rintro e w' ⟨rfl, rfl⟩
  go_wp2_with fail
  go_loopw [11, 12, 67] (fun g v i wr => PlR xs ys l1 w2 g v i wr) (fun _ _ i _ => l1 - (intOf i).toNat)
  case atStart => exact ⟨0, 0, 0, Nat.zero_le _, rfl, by first | rfl | simp [inB], rfl, Lib.hid (fun _ => rfl), rfl⟩
  case round =>
    obtain ⟨k, n, u, hk, rfl, rfl, rfl, hu, rfl⟩ := hrel
    by_cases hlt : k < l1
    · cases c : inB ((xs.zip ys).take k)
      · have c2 := Lib.hid (inB_false _ k c)
        replace c := Lib.hid c
        go_wp2_with fail
        go_roundw
        case rel => exact ⟨k + 1, _, _, by omega, by go_num, by rw [c2.out.1], rfl, (by show _ → _; intro h; rw [c2.out.1] at h; cases h), rfl⟩
        case measure => (simp [intOf]; try omega)
      · obtain ⟨b, off, ha1, hc⟩ : ∃ b off, a1 = some ⟨b, off, none⟩ ∧ ∀ j, j < l1 → w.cell? ⟨b, off + j, none⟩ = some (.int .i64 (xs.getD j 0)) := by
          rcases hX.out with h4 | ⟨b, off, ha, hc⟩
          · omega
          · exact ⟨b, off, ha, hc⟩
        obtain ⟨b', off', ha2, hc'⟩ : ∃ b off, a2 = some ⟨b, off, none⟩ ∧ ∀ j, j < l1 → w.cell? ⟨b, off + j, none⟩ = some (.int .i64 (ys.getD j 0)) := by
          rcases hY.out with h4 | ⟨b, off, ha, hc⟩
          · omega
          · exact ⟨b, off, ha, hc⟩
        have e1 : (w2.drewN n).cell? ⟨b, off + k, none⟩ = _ := cell_later (below_drewN' hb2 n) (hc k hlt)
        have e2 : (w2.drewN n).cell? ⟨b', off' + k, none⟩ = _ := cell_later (below_drewN' hb2 n) (hc' k hlt)
        subst ha1 ha2
        clear hc hc'
        have k1 : k < xs.length := by rw [xl.out]; exact hlt
        have k2 : k < ys.length := by rw [yl.out]; exact hlt
        have S := Lib.hid (inB_step xs ys k k1 k2 c)
        have T := Lib.hid (inB_bad_step xs ys k k1 k2)
        have N := Lib.hid (numP_step xs ys k k1 k2)
        obtain ⟨q1, q2⟩ := numP_take xs ys (by rw [xl.out, yl.out]) RR.out k (by omega) c
        have q3 := prodI_take_le RR.out k
        rw [hsz.out] at q3
        have q4 := PN.out
        obtain rfl := hu.out c
        clear hu
        obtain ⟨x1, x2⟩ := allR_getD RR.out k k1
        obtain ⟨y1, y2⟩ := yf.out.getD k
        generalize xs.getD k 0 = x at *
        generalize ys.getD k 0 = y at *
        generalize numP ((xs.zip ys).take k) = t at *
        have t1 : t ≤ 65536 := by omega
        have m1 : t * x ≤ 65536 * 1024 := Int.mul_le_mul t1 x2 (by omega) (by omega)
        have m2 : 0 ≤ t * x := Int.mul_nonneg q1 (by omega)
        obtain ⟨W, hW⟩ : ∃ W, w2.drewN n = W := ⟨_, rfl⟩
        rw [hW] at e1 e2 ⊢
        replace hW := Lib.hid hW
        replace c := Lib.hid c
        by_cases d1 : y < 0
        · have T2 := Lib.hid (T.out (by omega))
          have f1 : decide (0 ≤ y) = false := decide_eq_false (by omega)
          have r1 : IntKind.i64.wrap (t * x) = t * x := IntWalk.i64_in _ (by omega)
          have r2 : IntKind.i64.wrap (t * x + y) = t * x + y := IntWalk.i64_in _ (by omega)
          clear S T q2 q3 q4 hX hY
          go_wp2_with fail
          go_quiet (fail)
          go_wp2_with fail
          go_quiet (fail)
          clear r1 r2
          go_wp2_with fail
          go_roundw
          case rel => exact ⟨k + 1, _, _, by omega, by go_num, by rw [T2.out], rfl, (by show _ → _; intro h; rw [T2.out] at h; cases h), by rw [← hW.out, World.drewN_drewN]⟩
          case measure => (simp [intOf]; try omega)
        by_cases d2 : x ≤ y
        · have T2 := Lib.hid (T.out (by omega))
          have f1 : decide (0 ≤ y) = true := decide_eq_true (by omega)
          have f2 : decide (y < x) = false := decide_eq_false (by omega)
          have r1 : IntKind.i64.wrap (t * x) = t * x := IntWalk.i64_in _ (by omega)
          clear S T q2 q3 q4 hX hY
          go_wp2_with fail
          go_quiet (fail)
          go_wp2_with fail
          go_quiet (fail)
          clear r1
          go_wp2_with fail
          go_roundw
          case rel => exact ⟨k + 1, _, _, by omega, by go_num, by rw [T2.out], rfl, (by show _ → _; intro h; rw [T2.out] at h; cases h), by rw [← hW.out, World.drewN_drewN]⟩
          case measure => (simp [intOf]; try omega)
        · have S2 := Lib.hid (S.out (by omega) (by omega))
          have f1 : decide (0 ≤ y) = true := decide_eq_true (by omega)
          have f2 : decide (y < x) = true := decide_eq_true (by omega)
          have r1 : IntKind.i64.wrap (t * x) = t * x := IntWalk.i64_in _ (by omega)
          have r2 : IntKind.i64.wrap (t * x + y) = t * x + y := IntWalk.i64_in _ (by omega)
          clear S T q2 q3 q4 hX hY
          go_wp2_with fail
          go_quiet (fail)
          go_wp2_with fail
          go_quiet (fail)
          clear r1 r2
          go_wp2_with fail
          go_roundw
          case rel => exact ⟨k + 1, _, _, by omega, by go_num, by rw [S2.out], rfl, (by show _ → _; intro _; rw [N.out]), by rw [← hW.out, World.drewN_drewN]⟩
          case measure => (simp [intOf]; try omega)
    · have ez : (xs.zip ys).take k = xs.zip ys := take_zip_full k (by rw [xl.out]; omega)
      rw [ez] at hu ⊢
      rw [zin.out]
      have hu2 := hu.out zin.out
      rw [ht0.out] at hu2
      subst hu2
      clear ez hu
      have hb3 : Below w.heap.size w (w2.drewN n) := below_drewN' hb2 n
      have hA3 := Lib.hid (hA.out.kept (below_drewN' (Below.refl w2.heap.size w2) n))
      obtain ⟨W, hW⟩ : ∃ W, w2.drewN n = W := ⟨_, rfl⟩
      rw [hW] at hb3 hA3 ⊢
      clear hW
      go_wp2_with fail
      refine (AT2.out W hb3).mono ?_
      rintro e w4 ⟨A4, c4, rfl, ho4, hb4⟩
      have hz4 := Lib.hid (row_ints ho4 (by omega) yf.out)
      have hA4 := Lib.hid (hA3.out.kept hb4)
      replace hb4 := hb3.trans (hb4.mono hb3.size)
      clear ho4
      have L := same_any A4 l1 c4 ys a2 l1 c2 ys w4 hz4.out (h2H.out.kept hb4)
      rw [sameL_self] at L
      have L2 := Lib.hid L
      clear L
      go_wp2_with fail
      refine L2.out.mono ?_
      rintro e w5 ⟨rfl, n5, hn5⟩
      have hb5 : Below w.heap.size w w5 := by rw [hn5]; exact below_drewN' hb4 n5
      have hA5 := Lib.hid (show IntsAt w5 A l1 (digs xs place) by rw [hn5]; exact hA4.out.kept (below_drewN' (Below.refl _ _) n5))
      clear hn5
      go_wp2_with fail
      refine (SZ.out w5 hb5).mono ?_
      rintro e w' ⟨rfl, rfl⟩
      go_wp2_with fail
      refine (P3.out w5 hb5 A cA hA5.out).mono ?_
      rintro e w6 ⟨rfl, hb6⟩
      replace hb6 := hb5.trans (hb6.mono hb5.size)
      go_wp2_with fail
      refine (awake03_any _).mono ?_
      rintro e w9 ⟨rfl, hb9⟩
      go_wp2_with fail
      go_ret
      exact ⟨rfl, hb6.trans (hb9.mono hb6.size)⟩

set_option maxHeartbeats 400000 in
theorem shapePlaces_walk (a1 : Option Addr) (l1 c1 : Nat) (xs : List Int) (a2 : Option Addr) (l2 c2 : Nat) (ys : List Int) (place : Int) (w : World) (h : IntsAt w a1 l1 xs) (h' : IntsAt w a2 l2 ys) (hp1 : -9223372036854775808 ≤ place) (hp2 : place ≤ 9223372036854775807) :
    Calls Try.prog 4 #[.slice a1 l1 c1, .slice a2 l2 c2, .int .i64 place] w fun e w' => e = .returned (.bool true) ∧ Below w.heap.size w w' := by
  by_cases hlen : 50 < l1
  · exact places_long1 a1 l1 c1 xs a2 l2 c2 ys place w h h' hlen
  by_cases hlen2 : 50 < l2
  · exact places_long2 a1 l1 c1 xs a2 l2 c2 ys place w h h' hlen hlen2
  cases b1 : rightS xs
  · exact places_wrong a1 l1 c1 xs a2 l2 c2 ys place w h h' hlen hlen2 b1
  by_cases hp : 0 ≤ place ∧ place < prodI xs
  · by_cases hne : l2 = l1
    · subst hne
      cases b2 : atOk xs ys
      · exact places_bad_in a1 l2 c1 xs a2 c2 ys place w h h' hlen b1 b2 hp.1 hp.2
      · exact places_ok_in a1 l2 c1 xs a2 c2 ys place w h h' hlen b1 b2 hp.1 hp.2
    · exact places_ne_in a1 l1 c1 xs a2 l2 c2 ys place w h h' hlen hlen2 hne b1 hp.1 hp.2
  · by_cases hne : l2 = l1
    · subst hne
      cases b2 : atOk xs ys
      · exact places_bad_out a1 l2 c1 xs a2 c2 ys place w h h' hlen b1 b2 hp
      · exact places_ok_out a1 l2 c1 xs a2 c2 ys place w h h' hlen b1 b2 hp
    · exact places_ne_out a1 l1 c1 xs a2 l2 c2 ys place w h h' hlen hlen2 hne b1 hp
end Go.Proofs.Ytieajkpjkhdjeaa
