/-
  Contracts of package safe: Add, Mul, Max, Sub, Share.
-/
import Derived.Test.YtlpecdfiagklpaaSafeW
namespace Go.Proofs.Ytlpecdfiagklpaa
open Go.RowKit
set_option linter.unusedVariables false
set_option linter.unusedSimpArgs false

theorem quo_lt {t x : Int} (h1 : 1 ≤ t) (h : 1099511627776 / t < x) : 1099511627776 < t * x := by
  have := (Int.ediv_lt_iff_lt_mul (show 0 < t by omega)).1 h
  rw [Int.mul_comm]; exact this
theorem quo_ge {t x : Int} (h1 : 1 ≤ t) (h : ¬ 1099511627776 / t < x) : t * x ≤ 1099511627776 := by
  have := (Int.le_ediv_iff_mul_le (show 0 < t by omega)).1 (show x ≤ 1099511627776 / t by omega)
  rw [Int.mul_comm]; exact this

set_option maxHeartbeats 1000000 in
theorem safemul_any (a : Option Addr) (len cap : Nat) (zs : List Int) (w : World) (h : IntsAt w a len zs) :
    Calls Try.prog 56 #[.slice a len cap] w fun e w' => e = .returned (.tuple #[.int .i64 (mulN zs), .int .i64 (mulE zs)]) ∧ Below w.heap.size w w' := by
  have c0 := all_right a len cap zs w h
  have H := Lib.hid h
  obtain ⟨h1, h2, h3, h4⟩ := h
  cases c : allR 0 1099511627776 zs
  · rw [c] at c0
    have C := Lib.hid c0
    have E := Lib.hid (mul_bad c)
    clear c c0 h4
    go_enter Try.func56, Try.ntmps56
    go_wp2_with fail
    refine C.out.mono ?_
    rintro e w1 ⟨rfl, hb⟩
    go_wp2_with fail
    go_ret2
    exact ⟨ret_ints2 E.out.1 E.out.2, hb⟩
  · rw [c] at c0
    have C := Lib.hid c0
    have c' := Lib.hid c
    clear c0 c
    go_enter Try.func56, Try.ntmps56
    go_wp2_with fail
    refine C.out.mono ?_
    rintro e w1 ⟨rfl, hb⟩
    have D := Lib.hid (within_any 1 1099511627776 w1)
    go_wp2_with fail
    refine D.out.mono ?_
    rintro e w2 ⟨rfl, hp, hq, hb2, -⟩
    have hb3 : Below w.heap.size w w2 := hb.trans (hb2.mono hb.size)
    have d0 := all_within 1 1099511627776 _ _ a len cap zs w2 (H.out.kept hb3) hp hq
    clear hp hq hb2 D C
    cases d : allR 1 1099511627776 zs
    · rw [d] at d0
      have D := Lib.hid d0
      have E := Lib.hid (mul_nought c'.out d)
      clear d d0 h4
      go_wp2_with fail
      refine D.out.mono ?_
      rintro e w3 ⟨rfl, rfl⟩
      go_wp2_with fail
      go_ret2
      exact ⟨ret_ints2 E.out.1 E.out.2, hb3⟩
    · rw [d] at d0
      have D := Lib.hid d0
      have d' := Lib.hid d
      clear d d0
      go_wp2_with fail
      refine D.out.mono ?_
      rintro e w3 ⟨rfl, rfl⟩
      go_wp2_with fail
      go_loop [4, 16] (fun t i => ∃ k : Nat, k ≤ len ∧ i = .int .i64 k ∧ t = .int .i64 (prodI (zs.take k)) ∧ prodI (zs.take k) ≤ 1099511627776) (fun _ i => len - (intOf i).toNat)
      case atStart => exact ⟨0, Nat.zero_le _, rfl, rfl, by simp [prodI]⟩
      case round =>
        obtain ⟨k, hk, rfl, rfl, hle⟩ := hrel
        have s0 := prodI_pos (allR_take d'.out k)
        by_cases hlt : k < len
        · rcases h4 with h4 | ⟨b, off, rfl, hc⟩
          · omega
          · have hcell := cell_later hb3 (hc k hlt)
            clear hc
            have hstep := prodI_step zs k (by omega)
            have htot := prodI_take_le d'.out (k + 1)
            obtain ⟨x1, x2⟩ := allR_getD d'.out k (by omega)
            generalize zs.getD k 0 = x at *
            generalize prodI (zs.take k) = t at *
            have hs := Lib.hid hstep
            clear h1 h3
            by_cases hbig : 1099511627776 / t < x
            · have E := Lib.hid (mul_big c'.out (by have := quo_lt s0 hbig; omega))
              clear htot hstep
              go_wp2_with fail
              go_ret2
              exact ⟨ret_ints2 E.out.1 E.out.2, hb3⟩
            · have p1 := quo_ge s0 hbig
              have p2 := Int.mul_le_mul s0 x1 (by omega) (by omega)
              have p3 : 0 ≤ t * x := by omega
              clear htot hstep p2
              go_wp2_with fail
              go_round
              case rel => exact ⟨k + 1, by omega, by go_num, by rw [hs.out], by rw [hs.out]; omega⟩
              case measure => (simp [intOf]; try omega)
        · have e : prodI (zs.take k) = prodI zs := by rw [List.take_of_length_le (by omega)]
          rw [e] at hle
          have E := mul_ok c'.out hle
          rw [← e] at E
          have E' := Lib.hid E
          clear E e hle
          generalize prodI (zs.take k) = t at *
          clear h1 h3 h4
          go_wp2_with fail
          go_ret2
          exact ⟨ret_ints2 E'.out.1 E'.out.2, hb3⟩

end Go.Proofs.Ytlpecdfiagklpaa
