/-
  Contracts of the reference package of layer 2.
-/
import Derived.Test.YtofekhkggojpnaaSafeG
namespace Go.Proofs.Ytofekhkggojpnaa
open Go.RowKit
set_option linter.unusedVariables false
set_option linter.unusedSimpArgs false

set_option maxHeartbeats 400000 in
theorem refright_any (n : Int) (w : World) :
    Calls Try.prog 13 #[.int .i64 n] w fun e w' => e = .returned (.bool (inR 0 1099511627776 n)) ∧ w = w' := by
  by_cases c : 0 ≤ n
  · by_cases d : n ≤ 1099511627776
    · have E := Lib.hid (inR_yes c d).symm
      go_enter Try.func13, Try.ntmps13
      go_wp2_with fail
      go_ret
      exact ⟨ret_bool E.out, rfl⟩
    · have E := Lib.hid (inR_high (lo := 0) d).symm
      go_enter Try.func13, Try.ntmps13
      go_wp2_with fail
      go_ret
      exact ⟨ret_bool E.out, rfl⟩
  · have E := Lib.hid (inR_low (hi := 1099511627776) c).symm
    go_enter Try.func13, Try.ntmps13
    go_wp2_with fail
    go_ret
    exact ⟨ret_bool E.out, rfl⟩

set_option maxHeartbeats 1000000 in
theorem refsum_any (a : Option Addr) (len cap : Nat) (zs : List Int) (w : World) (h : IntsAt w a len zs) :
    Calls Try.prog 10 #[.slice a len cap] w fun e w' => e = .returned (.tuple #[.int .i64 (addN zs), .int .i64 (addE zs)]) ∧ w = w' := by
  obtain ⟨h1, h2, h3, h4⟩ := h
  go_enter Try.func10, Try.ntmps10
  go_wp2_with fail
  go_loop [4] (fun i => ∃ k : Nat, k ≤ len ∧ i = .int .i64 k ∧ Hid (allR 0 1099511627776 (zs.take k) = true)) (fun i => len - (intOf i).toNat)
  case atStart => exact ⟨0, Nat.zero_le _, rfl, rfl⟩
  case round =>
    obtain ⟨k, hk, rfl, hall⟩ := hrel
    by_cases hlt : k < len
    · rcases h4 with h4 | ⟨b, off, rfl, hc⟩
      · omega
      · have hcell := hc k hlt
        clear hc
        have S := Lib.hid (allR_step 0 1099511627776 zs k (by omega) hall.out)
        have T := Lib.hid (allR_stop 0 1099511627776 zs k (by omega))
        generalize zs.getD k 0 = x at *
        clear h1 h3
        have C := Lib.hid (refright_any x w)
        cases c : inR 0 1099511627776 x
        · have C2 := C.out
          rw [c] at C2
          have C3 := Lib.hid C2
          have T2 := Lib.hid (add_bad (T.out c).symm)
          clear C2 C T S c
          go_wp2_with fail
          refine C3.out.mono ?_
          rintro e w1 ⟨rfl, rfl⟩
          go_wp2_with fail
          go_ret2
          exact ⟨ret_ints2 T2.out.1 T2.out.2, rfl⟩
        · have C2 := C.out
          rw [c] at C2
          have C3 := Lib.hid C2
          have T2 := Lib.hid (S.out c)
          clear C2 C T S c
          go_wp2_with fail
          refine C3.out.mono ?_
          rintro e w1 ⟨rfl, rfl⟩
          go_wp2_with fail
          go_round
          case rel => exact ⟨k + 1, by omega, by go_num, T2⟩
          case measure => (simp [intOf]; try omega)
    · have c' := Lib.hid (allR_full 0 1099511627776 zs k (by omega) hall.out).symm
      clear hall
      go_wp2_with fail
      go_loop [5, 6] (fun t i => ∃ k : Nat, k ≤ len ∧ i = .int .i64 k ∧ t = .int .i64 (sumI (zs.take k)) ∧ sumI (zs.take k) ≤ 1099511627776) (fun _ i => len - (intOf i).toNat)
      case atStart => exact ⟨0, Nat.zero_le _, rfl, rfl, by simp [sumI]⟩
      case round =>
        obtain ⟨k, hk, rfl, rfl, hle⟩ := hrel
        have s0 := sumI_nonneg (allR_take c'.out k)
        by_cases hlt : k < len
        · rcases h4 with h4 | ⟨b, off, rfl, hc⟩
          · omega
          · have hcell := hc k hlt
            clear hc
            have hstep := sumI_step zs k (by omega)
            have htot := sumI_take_le c'.out (k + 1)
            obtain ⟨x1, x2⟩ := allR_getD c'.out k (by omega)
            generalize zs.getD k 0 = x at *
            generalize sumI (zs.take k) = t at *
            have hs := Lib.hid hstep
            clear h1 h3
            by_cases hbig : 1099511627776 < t + x
            · have E := Lib.hid (add_big c'.out (by omega))
              clear htot hstep
              go_wp2_with fail
              go_ret2
              exact ⟨ret_ints2 E.out.1 E.out.2, rfl⟩
            · clear htot hstep
              go_wp2_with fail
              go_round
              case rel => exact ⟨k + 1, by omega, by go_num, by rw [hs.out], by rw [hs.out]; omega⟩
              case measure => (simp [intOf]; try omega)
        · have e : sumI (zs.take k) = sumI zs := by rw [List.take_of_length_le (by omega)]
          rw [e] at hle
          have E := add_ok c'.out hle
          rw [← e] at E
          have E' := Lib.hid E
          clear E e hle
          generalize sumI (zs.take k) = t at *
          clear h1 h3 h4
          go_wp2_with fail
          go_ret2
          exact ⟨ret_ints2 E'.out.1 E'.out.2, rfl⟩

theorem prodI_zero_at {hi : Int} {l : List Int} (h : allR 0 hi l = true) (k : Nat) (hk : k < l.length) (h0 : l.getD k 0 = 0) : allR 1 hi l = false :=
  (allR_stop 1 hi l k hk (by rw [h0]; exact inR_low (by omega))).symm

set_option maxHeartbeats 1000000 in
theorem refprod_any (a : Option Addr) (len cap : Nat) (zs : List Int) (w : World) (h : IntsAt w a len zs) :
    Calls Try.prog 12 #[.slice a len cap] w fun e w' => e = .returned (.tuple #[.int .i64 (mulN zs), .int .i64 (mulE zs)]) ∧ w = w' := by
  obtain ⟨h1, h2, h3, h4⟩ := h
  go_enter Try.func12, Try.ntmps12
  go_wp2_with fail
  go_loop [4] (fun i => ∃ k : Nat, k ≤ len ∧ i = .int .i64 k ∧ Hid (allR 0 1099511627776 (zs.take k) = true)) (fun i => len - (intOf i).toNat)
  case atStart => exact ⟨0, Nat.zero_le _, rfl, rfl⟩
  case round =>
    obtain ⟨k, hk, rfl, hall⟩ := hrel
    by_cases hlt : k < len
    · rcases h4 with h4 | ⟨b, off, rfl, hc⟩
      · omega
      · have hcell := hc k hlt
        clear hc
        have S := Lib.hid (allR_step 0 1099511627776 zs k (by omega) hall.out)
        have T := Lib.hid (allR_stop 0 1099511627776 zs k (by omega))
        generalize zs.getD k 0 = x at *
        clear h1 h3
        have C := Lib.hid (refright_any x w)
        cases c : inR 0 1099511627776 x
        · have C2 := C.out
          rw [c] at C2
          have C3 := Lib.hid C2
          have T2 := Lib.hid (mul_bad (T.out c).symm)
          clear C2 C T S c
          go_wp2_with fail
          refine C3.out.mono ?_
          rintro e w1 ⟨rfl, rfl⟩
          go_wp2_with fail
          go_ret2
          exact ⟨ret_ints2 T2.out.1 T2.out.2, rfl⟩
        · have C2 := C.out
          rw [c] at C2
          have C3 := Lib.hid C2
          have T2 := Lib.hid (S.out c)
          clear C2 C T S c
          go_wp2_with fail
          refine C3.out.mono ?_
          rintro e w1 ⟨rfl, rfl⟩
          go_wp2_with fail
          go_round
          case rel => exact ⟨k + 1, by omega, by go_num, T2⟩
          case measure => (simp [intOf]; try omega)
    · have c' := Lib.hid (allR_full 0 1099511627776 zs k (by omega) hall.out).symm
      clear hall
      go_wp2_with fail
      go_loop [5] (fun i => ∃ k : Nat, k ≤ len ∧ i = .int .i64 k ∧ Hid (allR 1 1099511627776 (zs.take k) = true)) (fun i => len - (intOf i).toNat)
      case atStart => exact ⟨0, Nat.zero_le _, rfl, rfl⟩
      case round =>
        obtain ⟨k, hk, rfl, hall⟩ := hrel
        by_cases hlt : k < len
        · rcases h4 with h4 | ⟨b, off, rfl, hc⟩
          · omega
          · have hcell := hc k hlt
            clear hc
            have S := Lib.hid (allR_step 1 1099511627776 zs k (by omega) hall.out)
            have T := Lib.hid (prodI_zero_at c'.out k (by omega))
            obtain ⟨x1, x2⟩ := allR_getD c'.out k (by omega)
            generalize zs.getD k 0 = x at *
            clear h1 h3
            by_cases hz : x = 0
            · subst hz
              have E := Lib.hid (mul_nought c'.out (T.out rfl))
              clear T S
              go_wp2_with fail
              go_ret2
              exact ⟨ret_ints2 E.out.1 E.out.2, rfl⟩
            · have S2 := Lib.hid (S.out (inR_yes (by omega) x2))
              clear T S
              go_wp2_with fail
              go_round
              case rel => exact ⟨k + 1, by omega, by go_num, S2⟩
              case measure => (simp [intOf]; try omega)
        · have d' := Lib.hid (allR_full 1 1099511627776 zs k (by omega) hall.out).symm
          clear hall
          go_wp2_with fail
          go_loop [6, 7] (fun t i => ∃ k : Nat, k ≤ len ∧ i = .int .i64 k ∧ t = .int .i64 (prodI (zs.take k)) ∧ prodI (zs.take k) ≤ 1099511627776) (fun _ i => len - (intOf i).toNat)
          case atStart => exact ⟨0, Nat.zero_le _, rfl, rfl, by simp [prodI]⟩
          case round =>
            obtain ⟨k, hk, rfl, rfl, hle⟩ := hrel
            have s0 := prodI_pos (allR_take d'.out k)
            by_cases hlt : k < len
            · rcases h4 with h4 | ⟨b, off, rfl, hc⟩
              · omega
              · have hcell := hc k hlt
                clear hc
                have hstep := prodI_step zs k (by omega)
                have htot := prodI_take_le d'.out (k + 1)
                obtain ⟨x1, x2⟩ := allR_getD d'.out k (by omega)
                generalize zs.getD k 0 = x at *
                generalize prodI (zs.take k) = t at *
                have hs := Lib.hid hstep
                clear h1 h3
                by_cases hbig : 1099511627776 / x < t
                · have E := Lib.hid (mul_big c'.out (by have := quo_lt x1 hbig; rw [Int.mul_comm] at this; omega))
                  clear htot hstep
                  go_wp2_with fail
                  go_ret2
                  exact ⟨ret_ints2 E.out.1 E.out.2, rfl⟩
                · have p1 := quo_ge x1 hbig
                  rw [Int.mul_comm] at p1
                  have p2 := Int.mul_le_mul s0 x1 (by omega) (by omega)
                  have p3 : 0 ≤ t * x := by omega
                  clear htot hstep p2
                  go_wp2_with fail
                  go_round
                  case rel => exact ⟨k + 1, by omega, by go_num, by rw [hs.out], by rw [hs.out]; omega⟩
                  case measure => (simp [intOf]; try omega)
            · have e : prodI (zs.take k) = prodI zs := by rw [List.take_of_length_le (by omega)]
              rw [e] at hle
              have E := mul_ok c'.out hle
              rw [← e] at E
              have E' := Lib.hid E
              clear E e hle
              generalize prodI (zs.take k) = t at *
              clear h1 h3 h4
              go_wp2_with fail
              go_ret2
              exact ⟨ret_ints2 E'.out.1 E'.out.2, rfl⟩

end Go.Proofs.Ytofekhkggojpnaa
