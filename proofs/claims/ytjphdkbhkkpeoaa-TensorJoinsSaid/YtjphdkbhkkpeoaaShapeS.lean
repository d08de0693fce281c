/-
  Contracts of package shape: Cut, Place.
-/
import Derived.Test.YtjphdkbhkkpeoaaShapeT
namespace Go.Proofs.Ytjphdkbhkkpeoaa
open Go.RowKit
set_option linter.unusedVariables false
set_option linter.unusedSimpArgs false

set_option maxHeartbeats 2000000 in
theorem cut_wrong (a : Option Addr) (len cap : Nat) (zs : List Int) (side fr to : Int) (w : World) (h : IntsAt w a len zs) (hn : rightS zs = false) :
    Calls Try.prog 23 #[.slice a len cap, .int .i64 side, .int .i64 fr, .int .i64 to] w (NilE w 20) := by
  have C := rightM_any a len cap zs w h
  rw [hn] at C
  have C1 := Lib.hid C
  clear C hn h
  go_enter Try.func23, Try.ntmps23
  go_wp2_with fail
  refine C1.out.mono ?_
  rintro e w1 ⟨rfl, hb⟩
  go_wp2_with fail
  go_ret2
  exact ⟨rfl, hb⟩

set_option maxHeartbeats 2000000 in
theorem cut_side (a : Option Addr) (len cap : Nat) (zs : List Int) (side fr to : Int) (w : World) (h : IntsAt w a len zs) (b1 : rightS zs = true) (hd : hasD len side = false) :
    Calls Try.prog 23 #[.slice a len cap, .int .i64 side, .int .i64 fr, .int .i64 to] w (NilE w 11) := by
  have C := rightM_any a len cap zs w h
  have E := fun w1 => hasD_any a len cap side w1 h.2.1
  rw [b1] at C
  rw [hd] at E
  have C1 := Lib.hid C
  have E1 := Lib.hid E
  clear C E b1 hd h
  go_enter Try.func23, Try.ntmps23
  go_wp2_with fail
  refine C1.out.mono ?_
  rintro e w1 ⟨rfl, hb⟩
  go_wp2_with fail
  refine (E1.out w1).mono ?_
  rintro e w2 ⟨rfl, rfl⟩
  go_wp2_with fail
  go_ret2
  exact ⟨rfl, hb⟩

set_option maxHeartbeats 2000000 in
theorem cut_part (a : Option Addr) (len cap : Nat) (zs : List Int) (k : Nat) (fr to : Int) (w : World) (h : IntsAt w a len zs) (b1 : rightS zs = true) (hk : k < len)
    (hn : ¬ (0 ≤ fr ∧ to ≤ zs.getD k 0 ∧ fr < to)) :
    Calls Try.prog 23 #[.slice a len cap, .int .i64 k, .int .i64 fr, .int .i64 to] w (NilE w 11) := by
  have C := rightM_any a len cap zs w h
  have E := fun w1 => hasD_any a len cap k w1 h.2.1
  rw [b1] at C
  rw [← hasD_yes (show (0 : Int) ≤ k by omega) (show (k : Int) < len by omega)] at E
  have C1 := Lib.hid C
  have E1 := Lib.hid E
  obtain ⟨b, off, rfl, hc⟩ : ∃ b off, a = some ⟨b, off, none⟩ ∧ w.cell? ⟨b, off + k, none⟩ = some (.int .i64 (zs.getD k 0)) := by
    rcases h.2.2.2 with h4 | ⟨b, off, ha, hc⟩
    · omega
    · exact ⟨b, off, ha, hc k hk⟩
  have hcell := Lib.hid (fun w1 (hb : Below w.heap.size w w1) => cell_later hb hc)
  have hl := h.2.1
  clear C E b1 h hc
  generalize zs.getD k 0 = x at *
  by_cases c1 : fr < 0
  · clear hn
    go_enter Try.func23, Try.ntmps23
    go_wp2_with fail
    refine C1.out.mono ?_
    rintro e w1 ⟨rfl, hb⟩
    go_wp2_with fail
    refine (E1.out w1).mono ?_
    rintro e w2 ⟨rfl, rfl⟩
    go_wp2_with fail
    go_ret2
    exact ⟨rfl, hb⟩
  by_cases c2 : x < to
  · clear hn
    go_enter Try.func23, Try.ntmps23
    go_wp2_with fail
    refine C1.out.mono ?_
    rintro e w1 ⟨rfl, hb⟩
    go_wp2_with fail
    refine (E1.out w1).mono ?_
    rintro e w2 ⟨rfl, rfl⟩
    have hc1 := hcell.out w1 hb
    go_wp2_with fail
    go_ret2
    exact ⟨rfl, hb⟩
  · have c3 : to ≤ fr := by omega
    clear hn
    go_enter Try.func23, Try.ntmps23
    go_wp2_with fail
    refine C1.out.mono ?_
    rintro e w1 ⟨rfl, hb⟩
    go_wp2_with fail
    refine (E1.out w1).mono ?_
    rintro e w2 ⟨rfl, rfl⟩
    have hc1 := hcell.out w1 hb
    go_wp2_with fail
    go_ret2
    exact ⟨rfl, hb⟩

set_option maxHeartbeats 2000000 in
theorem cut_ok (a : Option Addr) (len cap : Nat) (zs : List Int) (k : Nat) (fr to : Int) (w : World) (h : IntsAt w a len zs) (b1 : rightS zs = true) (hk : k < len)
    (n1 : 0 ≤ fr) (n2 : to ≤ zs.getD k 0) (n3 : fr < to) :
    Calls Try.prog 23 #[.slice a len cap, .int .i64 k, .int .i64 fr, .int .i64 to] w (NewE w len (zs.set k (to - fr))) := by
  have hl : len ≤ 4 := by have := (rightS_parts b1).2.1; have := h.1; omega
  obtain ⟨x1, x2⟩ := allR_getD (rightS_parts b1).2.2.1 k (by have := h.1; omega)
  have C := rightM_any a len cap zs w h
  have E := fun w1 => hasD_any a len cap k w1 h.2.1
  have F := fun w1 (hb : Below w.heap.size w w1) n => with_any a len cap zs w1 (h.kept hb) (by omega) k hk n
  rw [b1] at C
  rw [← hasD_yes (show (0 : Int) ≤ k by omega) (show (k : Int) < len by omega)] at E
  have C1 := Lib.hid C
  have E1 := Lib.hid E
  have F1 := Lib.hid F
  obtain ⟨b, off, rfl, hc⟩ : ∃ b off, a = some ⟨b, off, none⟩ ∧ w.cell? ⟨b, off + k, none⟩ = some (.int .i64 (zs.getD k 0)) := by
    rcases h.2.2.2 with h4 | ⟨b, off, ha, hc⟩
    · omega
    · exact ⟨b, off, ha, hc k hk⟩
  have hcell := Lib.hid (fun w1 (hb : Below w.heap.size w w1) => cell_later hb hc)
  clear C E F b1 h hc
  generalize zs.getD k 0 = x at *
  go_enter Try.func23, Try.ntmps23
  go_wp2_with fail
  refine C1.out.mono ?_
  rintro e w1 ⟨rfl, hb⟩
  go_wp2_with fail
  refine (E1.out w1).mono ?_
  rintro e w2 ⟨rfl, rfl⟩
  have hc1 := hcell.out w1 hb
  go_wp2_with fail
  refine (F1.out w1 hb (to - fr)).mono ?_
  rintro e w2 ⟨A, c, rfl, ho, hb2⟩
  have P := Lib.hid (show NewE w len (zs.set k (to - fr)) (.returned (.tuple #[.slice A len c, .int .i64 0])) w2 from ⟨A, c, rfl, Joins.ownsRow_le ho hb.size, hb.trans (hb2.mono hb.size)⟩)
  clear ho hb2
  go_wp2_with fail
  go_ret2
  exact P.out

set_option maxHeartbeats 2000000 in
theorem place_any (a1 : Option Addr) (l1 c1 : Nat) (xs : List Int) (a2 : Option Addr) (l2 c2 : Nat) (ys : List Int) (w : World) (h : IntsAt w a1 l1 xs) (h' : IntsAt w a2 l2 ys) :
    Calls Try.prog 21 #[.slice a1 l1 c1, .slice a2 l2 c2] w fun e w' => e = .returned (.tuple #[.int .i64 (placeN xs ys), .int .i64 (placeE xs ys)]) ∧ Below w.heap.size w w' := by
  have C := rightM_any a1 l1 c1 xs w h
  cases b1 : rightS xs
  · rw [b1] at C
    have C1 := Lib.hid C
    have E := Lib.hid (place_wrong (a := ys) b1)
    clear C b1 h h'
    go_enter Try.func21, Try.ntmps21
    go_wp2_with fail
    refine C1.out.mono ?_
    rintro e w1 ⟨rfl, hb⟩
    go_wp2_with fail
    go_ret2
    exact ⟨ret_ints2 E.out.1 E.out.2, hb⟩
  rw [b1] at C
  have C1 := Lib.hid C
  have B1 := Lib.hid b1
  clear C b1
  obtain ⟨g1, g2, g3, g4⟩ := h
  obtain ⟨k1, k2, k3, k4⟩ := h'
  by_cases el : l2 = l1
  · obtain rfl := el
    have G := Lib.hid g1
    have K := Lib.hid k1
    have hl : l2 ≤ 4 := by have := (rightS_parts B1.out).2.1; omega
    clear g1 k1
    go_enter Try.func21, Try.ntmps21
    go_wp2_with fail
    refine C1.out.mono ?_
    rintro e w1 ⟨rfl, hb⟩
    go_wp2_with fail
    go_loop [6, 19] (fun p i => ∃ k : Nat, k ≤ l2 ∧ i = .int .i64 k ∧ p = .int .i64 (numP ((xs.zip ys).take k)) ∧ Hid (inB ((xs.zip ys).take k) = true)) (fun _ i => l2 - (intOf i).toNat)
    case atStart => exact ⟨0, Nat.zero_le _, rfl, rfl, rfl⟩
    case round =>
      obtain ⟨k, hk, rfl, rfl, hall⟩ := hrel
      by_cases hlt : k < l2
      · rcases g4 with g4 | ⟨b, off, rfl, hc⟩
        · omega
        rcases k4 with k4 | ⟨b', off', rfl, hc'⟩
        · omega
        have e1 := cell_later hb (hc k hlt)
        have e2 := cell_later hb (hc' k hlt)
        clear hc hc'
        have S := Lib.hid (inB_step xs ys k (by rw [G.out]; exact hlt) (by rw [K.out]; exact hlt) hall.out)
        have T := Lib.hid (inB_stop xs ys k (by rw [G.out]; exact hlt) (by rw [K.out]; exact hlt))
        have hs := numP_step xs ys k (by rw [G.out]; exact hlt) (by rw [K.out]; exact hlt)
        obtain ⟨q1, q2⟩ := numP_take xs ys (by rw [G.out, K.out]) (rightS_parts B1.out).2.2.1 k (by rw [G.out]; omega) hall.out
        have Q := Lib.hid (numP_take xs ys (by rw [G.out, K.out]) (rightS_parts B1.out).2.2.1 (k + 1) (by rw [G.out]; omega))
        have p1 := prodI_take_le (rightS_parts B1.out).2.2.1 k
        have p2 := prodI_take_le (rightS_parts B1.out).2.2.1 (k + 1)
        have p3 := (rightS_parts B1.out).2.2.2
        obtain ⟨x1, x2⟩ := allR_getD (rightS_parts B1.out).2.2.1 k (by rw [G.out]; exact hlt)
        have hs' := Lib.hid hs
        rw [hs] at Q
        obtain ⟨P1, hP1⟩ : ∃ z, prodI (xs.take (k + 1)) = z := ⟨_, rfl⟩
        rw [hP1] at Q p2
        clear hs hP1
        generalize xs.getD k 0 = x at *
        generalize ys.getD k 0 = y at *
        generalize numP ((xs.zip ys).take k) = t at *
        have t1 : t ≤ 65536 := by omega
        have m1 : t * x ≤ 65536 * 1024 := Int.mul_le_mul t1 x2 (by omega) (by omega)
        have m2 : 0 ≤ t * x := Int.mul_nonneg q1 (by omega)
        by_cases d1 : y < 0
        · have E := Lib.hid (place_none B1.out (atOk_bad (T.out (by omega))))
          clear S T hall m1 m2 Q p1 p2 p3 q2
          go_wp2_with fail
          go_ret2
          exact ⟨ret_ints2 E.out.1 E.out.2, hb⟩
        by_cases d2 : x ≤ y
        · have E := Lib.hid (place_none B1.out (atOk_bad (T.out (by omega))))
          clear S T hall m1 m2 Q p1 p2 p3 q2
          go_wp2_with fail
          go_ret2
          exact ⟨ret_ints2 E.out.1 E.out.2, hb⟩
        · have S2 := Lib.hid (S.out (by omega) (by omega))
          have w1 : t * x + y ≤ 100000000 := by omega
          have w2 : 0 ≤ t * x + y := by omega
          clear S T hall Q p1 p2 p3 q2
          go_wp2_with fail
          go_round
          case rel => exact ⟨k + 1, by omega, by go_num, by rw [hs'.out], S2⟩
          case measure => (simp [intOf]; try omega)
      · have e : (xs.zip ys).take k = xs.zip ys := take_zip_full k (by rw [G.out]; omega)
        rw [e] at hall ⊢
        have E := Lib.hid (place_yes B1.out (atOk_yes (by rw [G.out, K.out]) hall.out))
        obtain ⟨t, ht⟩ : ∃ t, numP (xs.zip ys) = t := ⟨_, rfl⟩
        rw [ht] at E ⊢
        clear g4 k4 hall e ht
        go_wp2_with fail
        go_ret2
        exact ⟨ret_ints2 E.out.1 E.out.2, hb⟩
  · have E := Lib.hid (place_none B1.out (atOk_len (s := xs) (a := ys) (by omega)))
    have el' : ¬ (l2 : Int) = (l1 : Int) := by omega
    clear g1 g3 g4 k1 k3 k4
    go_enter Try.func21, Try.ntmps21
    go_wp2_with fail
    refine C1.out.mono ?_
    rintro e w1 ⟨rfl, hb⟩
    go_wp2_with fail
    go_ret2
    exact ⟨ret_ints2 E.out.1 E.out.2, hb⟩
end Go.Proofs.Ytjphdkbhkkpeoaa
