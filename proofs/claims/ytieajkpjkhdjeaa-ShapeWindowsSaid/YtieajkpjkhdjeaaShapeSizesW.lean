/-
  The walks of the statements ShapeSizes and ShapeWindows.
-/
import Derived.Test.YtieajkpjkhdjeaaAwake03
namespace Go.Proofs.Ytieajkpjkhdjeaa
open Go.RowKit
set_option linter.unusedVariables false
set_option linter.unusedSimpArgs false

set_option maxHeartbeats 4000000 in
theorem shapeSizes_walk (a : Option Addr) (len cap : Nat) (zs : List Int) (w : World) (h : IntsAt w a len zs) :
    Calls Try.prog 3 #[.slice a len cap] w fun e w' => e = .returned (.bool true) ∧ Below w.heap.size w w' := by
  by_cases g : 50 < len
  · clear h
    go_enter Try.func3, Try.ntmps3
    go_wp2_with fail
    refine (awake03_any _).mono ?_
    rintro e w2 ⟨rfl, hb2⟩
    go_wp2_with fail
    go_ret
    exact ⟨rfl, hb2⟩
  have hf := Lib.hid h.2.2.1
  have C := Lib.hid (fun w1 (hb : Below w.heap.size w w1) => size_any a len cap zs w1 (h.kept hb))
  have D := Lib.hid (fun w1 (hb : Below w.heap.size w w1) => refshape_any a len cap zs w1 (h.kept hb))
  have E := Lib.hid (fun w1 (hb : Below w.heap.size w w1) => copy_any a len cap zs w1 (h.kept hb) (by omega))
  have F := Lib.hid (fun w1 (hb : Below w.heap.size w w1) => rightM_any a len cap zs w1 (h.kept hb))
  have G := Lib.hid (fun w1 (hb : Below w.heap.size w w1) A c2 (hz : IntsAt w1 A len zs) => equal_any A len c2 zs a len cap zs w1 hz (h.kept hb))
  have s := sameL_self zs
  rw [s] at G
  clear s
  cases c : rightS zs
  · rw [sizeE_no c, sizeN_no c] at C
    rw [c] at D F
    clear c h
    go_enter Try.func3, Try.ntmps3
    go_wp2_with fail
    refine (C.out w (Below.refl _ _)).mono ?_
    rintro e w1 ⟨rfl, hb1⟩
    go_wp2_with fail
    refine (D.out w1 hb1).mono ?_
    rintro e w' ⟨rfl, rfl⟩
    go_wp2_with fail
    refine (E.out w1 hb1).mono ?_
    rintro e w2 ⟨A, c2, rfl, ho, hb2⟩
    have hz := Lib.hid (row_ints ho (by omega) hf.out)
    replace hb2 := hb1.trans (hb2.mono hb1.size)
    clear ho hb1
    go_wp2_with fail
    refine (F.out w2 hb2).mono ?_
    rintro e w3 ⟨rfl, hb3⟩
    have hz3 := Lib.hid (hz.out.kept hb3)
    replace hb3 := hb2.trans (hb3.mono hb2.size)
    clear hz hb2
    go_wp2_with fail
    refine (G.out w3 hb3 A c2 hz3.out).mono ?_
    rintro e w4 ⟨rfl, n, hn⟩
    have hb4 : Below w.heap.size w w4 := by rw [hn]; exact below_drewN' hb3 n
    clear hn hb3 hz3
    go_wp2_with fail
    refine (awake03_any _).mono ?_
    rintro e w5 ⟨rfl, hb5⟩
    go_wp2_with fail
    go_ret
    exact ⟨rfl, hb4.trans (hb5.mono hb4.size)⟩
  · have K := Lib.hid (fun w1 (hb : Below w.heap.size w w1) => refsize_any a len cap zs w1 (h.kept hb) c)
    rw [sizeE_yes c, sizeN_yes c] at C
    rw [c] at D F
    generalize prodI zs = t at *
    clear c h
    go_enter Try.func3, Try.ntmps3
    go_wp2_with fail
    refine (C.out w (Below.refl _ _)).mono ?_
    rintro e w1 ⟨rfl, hb1⟩
    go_wp2_with fail
    refine (D.out w1 hb1).mono ?_
    rintro e w' ⟨rfl, rfl⟩
    go_wp2_with fail
    refine (E.out w1 hb1).mono ?_
    rintro e w2 ⟨A, c2, rfl, ho, hb2⟩
    have hz := Lib.hid (row_ints ho (by omega) hf.out)
    replace hb2 := hb1.trans (hb2.mono hb1.size)
    clear ho hb1
    go_wp2_with fail
    refine (F.out w2 hb2).mono ?_
    rintro e w3 ⟨rfl, hb3⟩
    have hz3 := Lib.hid (hz.out.kept hb3)
    replace hb3 := hb2.trans (hb3.mono hb2.size)
    clear hz hb2
    go_wp2_with fail
    refine (G.out w3 hb3 A c2 hz3.out).mono ?_
    rintro e w4 ⟨rfl, n, hn⟩
    have hb4 : Below w.heap.size w w4 := by rw [hn]; exact below_drewN' hb3 n
    clear hn hb3 hz3
    go_wp2_with fail
    refine (K.out w4 hb4).mono ?_
    rintro e w' ⟨rfl, rfl⟩
    go_wp2_with fail
    refine (awake03_any _).mono ?_
    rintro e w5 ⟨rfl, hb5⟩
    go_wp2_with fail
    go_ret
    exact ⟨rfl, hb4.trans (hb5.mono hb4.size)⟩

set_option maxHeartbeats 400000 in
theorem inW_any (n : Int) (w : World) :
    Calls Try.prog 24 #[.int .i64 n] w fun e w' => e = .returned (.bool (inR 1 1024 n)) ∧ w = w' := by
  by_cases c : 1 ≤ n
  · by_cases d : n ≤ 1024
    · have E := Lib.hid (inR_yes c d).symm
      go_enter Try.func24, Try.ntmps24
      go_wp2_with fail
      go_ret
      exact ⟨ret_bool E.out, rfl⟩
    · have E := Lib.hid (inR_high (lo := 1) d).symm
      go_enter Try.func24, Try.ntmps24
      go_wp2_with fail
      go_ret
      exact ⟨ret_bool E.out, rfl⟩
  · have E := Lib.hid (inR_low (hi := 1024) c).symm
    go_enter Try.func24, Try.ntmps24
    go_wp2_with fail
    go_ret
    exact ⟨ret_bool E.out, rfl⟩

set_option maxHeartbeats 4000000 in
theorem shapeWindows_walk (side width step : Int) (w : World) (hs1 : -9223372036854775808 ≤ side) (hs2 : side ≤ 9223372036854775807) (hw1 : -9223372036854775808 ≤ width) (hw2 : width ≤ 9223372036854775807) (ht1 : -9223372036854775808 ≤ step) (ht2 : step ≤ 9223372036854775807) :
    Calls Try.prog 8 #[.int .i64 side, .int .i64 width, .int .i64 step] w fun e w' => e = .returned (.bool true) ∧ Below w.heap.size w w' := by
  have C := window_any side width step w
  have C1 := inW_any side w
  have C2 := inW_any width w
  have C3 := inW_any step w
  have no : ∀ (h : ¬ (inR 1 1024 side = true ∧ inR 1 1024 width = true ∧ inR 1 1024 step = true ∧ width ≤ side)), winN side width step = 0 ∧ winE side width step = 11 := fun h => ⟨(win_no h).1.symm, (win_no h).2.symm⟩
  cases h1 : inR 1 1024 side
  · obtain ⟨n1, n2⟩ := no (by simp [h1])
    rw [n1, n2] at C
    rw [h1] at C1
    have D := Lib.hid C
    have D1 := Lib.hid C1
    clear C C1 C2 C3 no n1 n2 h1
    go_enter Try.func8, Try.ntmps8
    go_wp2_with fail
    refine D.out.mono ?_
    rintro e w1 ⟨rfl, rfl⟩
    go_wp2_with fail
    refine D1.out.mono ?_
    rintro e w1 ⟨rfl, rfl⟩
    go_wp2_with fail
    refine (awake03_any _).mono ?_
    rintro e w5 ⟨rfl, hb5⟩
    go_wp2_with fail
    go_ret
    exact ⟨rfl, hb5⟩
  cases h2 : inR 1 1024 width
  · obtain ⟨n1, n2⟩ := no (by simp [h2])
    rw [n1, n2] at C
    rw [h1] at C1
    rw [h2] at C2
    have D := Lib.hid C
    have D1 := Lib.hid C1
    have D2 := Lib.hid C2
    clear C C1 C2 C3 no n1 n2 h1 h2
    go_enter Try.func8, Try.ntmps8
    go_wp2_with fail
    refine D.out.mono ?_
    rintro e w1 ⟨rfl, rfl⟩
    go_wp2_with fail
    refine D1.out.mono ?_
    rintro e w1 ⟨rfl, rfl⟩
    go_wp2_with fail
    refine D2.out.mono ?_
    rintro e w1 ⟨rfl, rfl⟩
    go_wp2_with fail
    refine (awake03_any _).mono ?_
    rintro e w5 ⟨rfl, hb5⟩
    go_wp2_with fail
    go_ret
    exact ⟨rfl, hb5⟩
  cases h3 : inR 1 1024 step
  · obtain ⟨n1, n2⟩ := no (by simp [h3])
    rw [n1, n2] at C
    rw [h1] at C1
    rw [h2] at C2
    rw [h3] at C3
    have D := Lib.hid C
    have D1 := Lib.hid C1
    have D2 := Lib.hid C2
    have D3 := Lib.hid C3
    clear C C1 C2 C3 no n1 n2 h1 h2 h3
    go_enter Try.func8, Try.ntmps8
    go_wp2_with fail
    refine D.out.mono ?_
    rintro e w1 ⟨rfl, rfl⟩
    go_wp2_with fail
    refine D1.out.mono ?_
    rintro e w1 ⟨rfl, rfl⟩
    go_wp2_with fail
    refine D2.out.mono ?_
    rintro e w1 ⟨rfl, rfl⟩
    go_wp2_with fail
    refine D3.out.mono ?_
    rintro e w1 ⟨rfl, rfl⟩
    go_wp2_with fail
    refine (awake03_any _).mono ?_
    rintro e w5 ⟨rfl, hb5⟩
    go_wp2_with fail
    go_ret
    exact ⟨rfl, hb5⟩
  obtain ⟨p1, p2⟩ := inR_bounds h1
  obtain ⟨p3, p4⟩ := inR_bounds h2
  obtain ⟨p5, p6⟩ := inR_bounds h3
  by_cases h4 : side < width
  · obtain ⟨n1, n2⟩ := no (by omega)
    rw [n1, n2] at C
    rw [h1] at C1
    rw [h2] at C2
    rw [h3] at C3
    have D := Lib.hid C
    have D1 := Lib.hid C1
    have D2 := Lib.hid C2
    have D3 := Lib.hid C3
    clear C C1 C2 C3 no n1 n2 h1 h2 h3
    go_enter Try.func8, Try.ntmps8
    go_wp2_with fail
    refine D.out.mono ?_
    rintro e w1 ⟨rfl, rfl⟩
    go_wp2_with fail
    refine D1.out.mono ?_
    rintro e w1 ⟨rfl, rfl⟩
    go_wp2_with fail
    refine D2.out.mono ?_
    rintro e w1 ⟨rfl, rfl⟩
    go_wp2_with fail
    refine D3.out.mono ?_
    rintro e w1 ⟨rfl, rfl⟩
    go_wp2_with fail
    refine (awake03_any _).mono ?_
    rintro e w5 ⟨rfl, hb5⟩
    go_wp2_with fail
    go_ret
    exact ⟨rfl, hb5⟩
  · obtain ⟨n1, n2⟩ := win_yes (side := side) (width := width) (step := step) ⟨h1, h2, h3, by omega⟩
    rw [← n1, ← n2] at C
    rw [h1] at C1
    rw [h2] at C2
    rw [h3] at C3
    have D := Lib.hid C
    have D1 := Lib.hid C1
    have D2 := Lib.hid C2
    have D3 := Lib.hid C3
    have q1 : 0 ≤ (side - width) / step := Int.ediv_nonneg (by omega) (by omega)
    have q2 : (side - width) / step ≤ side - width := Int.ediv_le_self _ (by omega)
    have q3 : (side - width) / step * step ≤ side - width := Int.ediv_mul_le _ (by omega)
    have q4 : side - width < ((side - width) / step + 1) * step := by
      have := Int.lt_ediv_add_one_mul_self (side - width) (show 0 < step by omega)
      exact this
    obtain ⟨q, hq⟩ : ∃ q, (side - width) / step = q := ⟨_, rfl⟩
    rw [hq] at D q1 q2 q3 q4
    clear C C1 C2 C3 no n1 n2 h1 h2 h3 hq
    go_enter Try.func8, Try.ntmps8
    go_wp2_with fail
    refine D.out.mono ?_
    rintro e w1 ⟨rfl, rfl⟩
    go_wp2_with fail
    refine D1.out.mono ?_
    rintro e w1 ⟨rfl, rfl⟩
    go_wp2_with fail
    refine D2.out.mono ?_
    rintro e w1 ⟨rfl, rfl⟩
    go_wp2_with fail
    refine D3.out.mono ?_
    rintro e w1 ⟨rfl, rfl⟩
    go_wp2_with fail
    go_loop [10, 11] (fun t i => ∃ n x : Int, 0 ≤ n ∧ n ≤ q + 1 ∧ Hid (x = n * step) ∧ 0 ≤ x ∧ x ≤ 4096 ∧ t = .int .i64 n ∧ i = .int .i64 x) (fun t _ => (q + 1 - intOf t).toNat)
    case atStart => exact ⟨0, 0, by omega, by omega, Lib.hid (by omega), by omega, by omega, rfl, rfl⟩
    case round =>
      obtain ⟨n, x, n1, n2, hx, x1, x2, rfl, rfl⟩ := hrel
      by_cases c : x + width ≤ side
      · have hn : n ≤ q := by
          apply Decidable.byContradiction
          intro hn
          obtain rfl : n = q + 1 := by omega
          rw [← hx.out] at q4
          omega
        have hx2 : Hid (x + step = (n + 1) * step) := by show _ = _; rw [hx.out, Int.add_mul, Int.one_mul]
        clear hx q3 q4
        go_wp2_with fail
        go_round
        case rel => exact ⟨n + 1, x + step, by omega, by omega, hx2, by omega, by omega, rfl, rfl⟩
        case measure => (simp [intOf]; try omega)
      · have hn : n = 1 + q := by
          apply Decidable.byContradiction
          intro hne
          have := Int.mul_le_mul (show n ≤ q by omega) (Int.le_refl step) (by omega) (by omega)
          rw [← hx.out] at this
          omega
        subst hn
        clear hx q3 q4
        go_wp2_with fail
        refine (awake03_any _).mono ?_
        rintro e w5 ⟨rfl, hb5⟩
        go_wp2_with fail
        go_ret
        exact ⟨rfl, hb5⟩
end Go.Proofs.Ytieajkpjkhdjeaa
