/-
  The walk of the statement SafeParts.
-/
import Derived.Test.YtofekhkggojpnaaAwake02
namespace Go.Proofs.Ytofekhkggojpnaa
open Go.RowKit
set_option linter.unusedVariables false
set_option linter.unusedSimpArgs false

set_option maxHeartbeats 4000000 in
theorem safeParts_walk (a b : Int) (a3 : Option Addr) (len cap : Nat) (zs : List Int) (w : World) (ha1 : -9223372036854775808 ≤ a) (ha2 : a ≤ 9223372036854775807) (hb1 : -9223372036854775808 ≤ b) (hb2 : b ≤ 9223372036854775807) (h0 : IntsAt w a3 len zs) :
    Calls Try.prog 5 #[.int .i64 a, .int .i64 b, .slice a3 len cap] w fun e w' => e = .returned (.bool true) ∧ Below w.heap.size w w' := by
  by_cases g : 200 < len
  · go_enter Try.func5, Try.ntmps5
    go_wp2_with fail
    refine (awake02_any _).mono ?_
    rintro e w2 ⟨rfl, hb2⟩
    go_wp2_with fail
    go_ret
    exact ⟨rfl, hb2⟩
  have h := Lib.hid h0
  obtain ⟨h1', h2, h3, h4⟩ := h0
  have h1 := Lib.hid h1'
  have X4 : Hid (∀ w4, Below w.heap.size w w4 → ∀ k, k < len → ∃ b off, a3 = some ⟨b, off, none⟩ ∧ w4.cell? ⟨b, off + k, none⟩ = some (.int .i64 (zs.getD k 0))) := by
    intro w4 hb k hk
    rcases h4 with h4 | ⟨b, off, ha, hc⟩
    · omega
    · exact ⟨b, off, ha, cell_later hb (hc k hk)⟩
  clear h4 h3 h1'
  have r0 := fun w => right_any a w
  have r0' := fun w => refright_any a w
  have q0 := fun w => refright_any b w
  have c0 := fun w => safesub_any a b w
  have d0 := fun w => safeshare_any a b w
  cases c : inR 0 1099511627776 a
  · rw [show subN a b = 0 by simp [subN, c], show subE a b = 11 by simp [subE, c]] at c0
    rw [show shareQ a b = 0 by simp [shareQ, c], show shareR a b = 0 by simp [shareR, c], show shareE a b = 11 by simp [shareE, c]] at d0
    rw [c] at r0 r0'
    have C := Lib.hid c0; have D := Lib.hid d0; have R := Lib.hid r0; have R' := Lib.hid r0'; have Q' := Lib.hid q0
    clear c0 d0 r0 r0' q0 c
    go_enter Try.func5, Try.ntmps5
    go_wp2_with fail
    refine (R'.out _).mono ?_
    rintro e w' ⟨rfl, rfl⟩
    go_wp2_with fail
    refine (C.out _).mono ?_
    rintro e w3 ⟨rfl, hb3⟩
    go_wp2_with fail
    refine (D.out _).mono ?_
    rintro e w4 ⟨rfl, hb4⟩
    have z4 : Below w.heap.size w w4 := hb3.trans (hb4.mono hb3.size)
    clear hb3 hb4
    go_wp2_with fail
    go_loop [13, 104] (fun t i => ∃ k : Nat, k ≤ len ∧ i = .int .i64 k ∧ t = .int .i64 (maxI (zs.take k))) (fun _ i => len - (intOf i).toNat)
    case atStart => exact ⟨0, Nat.zero_le _, rfl, rfl⟩
    case round =>
      obtain ⟨k, hk, rfl, rfl⟩ := hrel
      by_cases hlt : k < len
      · have hcell := X4.out w4 z4 k hlt
        obtain ⟨b', off, rfl, hcell⟩ := hcell
        have hs := Lib.hid (maxI_step zs k (by have := h1.out; omega))
        generalize zs.getD k 0 = x at *
        generalize maxI (zs.take k) = t at *
        go_wp2_with fail
        go_round
        case rel => exact ⟨k + 1, by omega, by go_num, by rw [hs.out]; exact congrArg (Value.int .i64) (by split <;> omega)⟩
        case measure => (simp [intOf]; try omega)
      · have e : Hid (maxI (zs.take k) = maxI zs) := by show _ = _; rw [List.take_of_length_le (by have := h1.out; omega)]
        rw [e.out]
        have M := Lib.hid (safemax_any a3 len cap zs w4 (h.out.kept z4))
        generalize maxI zs = t at *
        go_wp2_with fail
        refine M.out.mono ?_
        rintro e w' ⟨rfl, rfl⟩
        go_wp2_with fail
        refine (R.out _).mono ?_
        rintro e w5 ⟨rfl, hb5⟩
        go_wp2_with fail
        refine (R'.out _).mono ?_
        rintro e w' ⟨rfl, rfl⟩
        go_wp2_with fail
        refine (awake02_any _).mono ?_
        rintro e w6 ⟨rfl, hb6⟩
        go_wp2_with fail
        go_ret
        have z5 := z4.trans (hb5.mono z4.size)
        exact ⟨rfl, z5.trans (hb6.mono z5.size)⟩
  · obtain ⟨x1, x2⟩ := inR_bounds c
    cases d : inR 0 1099511627776 b
    · have d1 : inR 1 1099511627776 b = false := by
        cases d1 : inR 1 1099511627776 b
        · rfl
        · have t := inR_bounds d1
          rw [inR_yes (by omega) t.2] at d
          exact absurd d (by decide)
      rw [show subN a b = 0 by simp [subN, c, d], show subE a b = 11 by simp [subE, c, d]] at c0
      rw [show shareQ a b = 0 by simp [shareQ, c, d1], show shareR a b = 0 by simp [shareR, c, d1], show shareE a b = 11 by simp [shareE, c, d1]] at d0
      rw [c] at r0 r0'
      rw [d] at q0
      have C := Lib.hid c0; have D := Lib.hid d0; have R := Lib.hid r0; have R' := Lib.hid r0'; have Q' := Lib.hid q0
      clear c0 d0 r0 r0' q0 c d d1
      go_enter Try.func5, Try.ntmps5
      go_wp2_with fail
      refine (R'.out _).mono ?_
      rintro e w' ⟨rfl, rfl⟩
      go_wp2_with fail
      refine (Q'.out _).mono ?_
      rintro e w' ⟨rfl, rfl⟩
      go_wp2_with fail
      refine (C.out _).mono ?_
      rintro e w3 ⟨rfl, hb3⟩
      go_wp2_with fail
      refine (D.out _).mono ?_
      rintro e w4 ⟨rfl, hb4⟩
      have z4 : Below w.heap.size w w4 := hb3.trans (hb4.mono hb3.size)
      clear hb3 hb4
      go_wp2_with fail
      go_loop [13, 104] (fun t i => ∃ k : Nat, k ≤ len ∧ i = .int .i64 k ∧ t = .int .i64 (maxI (zs.take k))) (fun _ i => len - (intOf i).toNat)
      case atStart => exact ⟨0, Nat.zero_le _, rfl, rfl⟩
      case round =>
        obtain ⟨k, hk, rfl, rfl⟩ := hrel
        by_cases hlt : k < len
        · have hcell := X4.out w4 z4 k hlt
          obtain ⟨b', off, rfl, hcell⟩ := hcell
          have hs := Lib.hid (maxI_step zs k (by have := h1.out; omega))
          generalize zs.getD k 0 = x at *
          generalize maxI (zs.take k) = t at *
          go_wp2_with fail
          go_round
          case rel => exact ⟨k + 1, by omega, by go_num, by rw [hs.out]; exact congrArg (Value.int .i64) (by split <;> omega)⟩
          case measure => (simp [intOf]; try omega)
        · have e : Hid (maxI (zs.take k) = maxI zs) := by show _ = _; rw [List.take_of_length_le (by have := h1.out; omega)]
          rw [e.out]
          have M := Lib.hid (safemax_any a3 len cap zs w4 (h.out.kept z4))
          generalize maxI zs = t at *
          go_wp2_with fail
          refine M.out.mono ?_
          rintro e w' ⟨rfl, rfl⟩
          go_wp2_with fail
          refine (R.out _).mono ?_
          rintro e w5 ⟨rfl, hb5⟩
          go_wp2_with fail
          refine (R'.out _).mono ?_
          rintro e w' ⟨rfl, rfl⟩
          go_wp2_with fail
          refine (awake02_any _).mono ?_
          rintro e w6 ⟨rfl, hb6⟩
          go_wp2_with fail
          go_ret
          have z5 := z4.trans (hb5.mono z4.size)
          exact ⟨rfl, z5.trans (hb6.mono z5.size)⟩
    · obtain ⟨y1, y2⟩ := inR_bounds d
      by_cases hz : b = 0
      · subst hz
        have d1 : inR 1 1099511627776 0 = false := by decide
        rw [show subN a 0 = a by simp [subN, c, d, x1], show subE a 0 = 0 by simp [subE, c, d, x1]] at c0
        rw [show shareQ a 0 = 0 by simp [shareQ, c, d1], show shareR a 0 = 0 by simp [shareR, c, d1], show shareE a 0 = 11 by simp [shareE, c, d1]] at d0
        rw [c] at r0 r0'
        rw [d] at q0
        have C := Lib.hid c0; have D := Lib.hid d0; have R := Lib.hid r0; have R' := Lib.hid r0'; have Q' := Lib.hid q0
        clear c0 d0 r0 r0' q0 c d d1
        go_enter Try.func5, Try.ntmps5
        go_wp2_with fail
        refine (R'.out _).mono ?_
        rintro e w' ⟨rfl, rfl⟩
        go_wp2_with fail
        refine (Q'.out _).mono ?_
        rintro e w' ⟨rfl, rfl⟩
        go_wp2_with fail
        refine (C.out _).mono ?_
        rintro e w3 ⟨rfl, hb3⟩
        go_wp2_with fail
        refine (D.out _).mono ?_
        rintro e w4 ⟨rfl, hb4⟩
        have z4 : Below w.heap.size w w4 := hb3.trans (hb4.mono hb3.size)
        clear hb3 hb4
        go_wp2_with fail
        go_loop [13, 104] (fun t i => ∃ k : Nat, k ≤ len ∧ i = .int .i64 k ∧ t = .int .i64 (maxI (zs.take k))) (fun _ i => len - (intOf i).toNat)
        case atStart => exact ⟨0, Nat.zero_le _, rfl, rfl⟩
        case round =>
          obtain ⟨k, hk, rfl, rfl⟩ := hrel
          by_cases hlt : k < len
          · have hcell := X4.out w4 z4 k hlt
            obtain ⟨b', off, rfl, hcell⟩ := hcell
            have hs := Lib.hid (maxI_step zs k (by have := h1.out; omega))
            generalize zs.getD k 0 = x at *
            generalize maxI (zs.take k) = t at *
            go_wp2_with fail
            go_round
            case rel => exact ⟨k + 1, by omega, by go_num, by rw [hs.out]; exact congrArg (Value.int .i64) (by split <;> omega)⟩
            case measure => (simp [intOf]; try omega)
          · have e : Hid (maxI (zs.take k) = maxI zs) := by show _ = _; rw [List.take_of_length_le (by have := h1.out; omega)]
            rw [e.out]
            have M := Lib.hid (safemax_any a3 len cap zs w4 (h.out.kept z4))
            generalize maxI zs = t at *
            go_wp2_with fail
            refine M.out.mono ?_
            rintro e w' ⟨rfl, rfl⟩
            go_wp2_with fail
            refine (R.out _).mono ?_
            rintro e w5 ⟨rfl, hb5⟩
            go_wp2_with fail
            refine (R'.out _).mono ?_
            rintro e w' ⟨rfl, rfl⟩
            go_wp2_with fail
            refine (awake02_any _).mono ?_
            rintro e w6 ⟨rfl, hb6⟩
            go_wp2_with fail
            go_ret
            have z5 := z4.trans (hb5.mono z4.size)
            exact ⟨rfl, z5.trans (hb6.mono z5.size)⟩
      · have p : 1 ≤ b := by omega
        have d1 : inR 1 1099511627776 b = true := inR_yes p y2
        rw [show shareQ a b = a / b by simp [shareQ, c, d1], show shareR a b = a % b by simp [shareR, c, d1], show shareE a b = 0 by simp [shareE, c, d1]] at d0
        have s1 := Int.ediv_mul_add_emod a b
        have s2 := Int.emod_nonneg a (show b ≠ 0 by omega)
        have s3 := Int.emod_lt_of_pos a (show 0 < b by omega)
        have s4 : 0 ≤ a / b := Int.ediv_nonneg (by omega) (by omega)
        have s6 : a / b ≤ a := Int.ediv_le_self _ (by omega)
        have s5 : 0 ≤ a / b * b := Int.mul_nonneg s4 (by omega)
        generalize a / b = q at *
        generalize a % b = rest at *
        have s7 : q * b ≤ 1099511627776 := by omega
        rw [c] at r0 r0'
        rw [d] at q0
        by_cases hlt : a < b
        · have hl : ¬ b ≤ a := by omega
          rw [show subN a b = 0 by simp [subN, c, d, hl], show subE a b = 17 by simp [subE, c, d, hl]] at c0
          have C := Lib.hid c0; have D := Lib.hid d0; have R := Lib.hid r0; have R' := Lib.hid r0'; have Q' := Lib.hid q0
          clear c0 d0 r0 r0' q0 c d d1 hl hz
          go_enter Try.func5, Try.ntmps5
          go_wp2_with fail
          refine (R'.out _).mono ?_
          rintro e w' ⟨rfl, rfl⟩
          go_wp2_with fail
          refine (Q'.out _).mono ?_
          rintro e w' ⟨rfl, rfl⟩
          go_wp2_with fail
          refine (C.out _).mono ?_
          rintro e w3 ⟨rfl, hb3⟩
          go_wp2_with fail
          refine (D.out _).mono ?_
          rintro e w4 ⟨rfl, hb4⟩
          have z4 : Below w.heap.size w w4 := hb3.trans (hb4.mono hb3.size)
          clear hb3 hb4
          go_wp2_with fail
          go_loop [13, 104] (fun t i => ∃ k : Nat, k ≤ len ∧ i = .int .i64 k ∧ t = .int .i64 (maxI (zs.take k))) (fun _ i => len - (intOf i).toNat)
          case atStart => exact ⟨0, Nat.zero_le _, rfl, rfl⟩
          case round =>
            obtain ⟨k, hk, rfl, rfl⟩ := hrel
            by_cases hlt : k < len
            · have hcell := X4.out w4 z4 k hlt
              obtain ⟨b', off, rfl, hcell⟩ := hcell
              have hs := Lib.hid (maxI_step zs k (by have := h1.out; omega))
              generalize zs.getD k 0 = x at *
              generalize maxI (zs.take k) = t at *
              go_wp2_with fail
              go_round
              case rel => exact ⟨k + 1, by omega, by go_num, by rw [hs.out]; exact congrArg (Value.int .i64) (by split <;> omega)⟩
              case measure => (simp [intOf]; try omega)
            · have e : Hid (maxI (zs.take k) = maxI zs) := by show _ = _; rw [List.take_of_length_le (by have := h1.out; omega)]
              rw [e.out]
              have M := Lib.hid (safemax_any a3 len cap zs w4 (h.out.kept z4))
              generalize maxI zs = t at *
              go_wp2_with fail
              refine M.out.mono ?_
              rintro e w' ⟨rfl, rfl⟩
              go_wp2_with fail
              refine (R.out _).mono ?_
              rintro e w5 ⟨rfl, hb5⟩
              go_wp2_with fail
              refine (R'.out _).mono ?_
              rintro e w' ⟨rfl, rfl⟩
              go_wp2_with fail
              refine (awake02_any _).mono ?_
              rintro e w6 ⟨rfl, hb6⟩
              go_wp2_with fail
              go_ret
              have z5 := z4.trans (hb5.mono z4.size)
              exact ⟨rfl, z5.trans (hb6.mono z5.size)⟩
        · have hl : b ≤ a := by omega
          rw [show subN a b = a - b by simp [subN, c, d, hl], show subE a b = 0 by simp [subE, c, d, hl]] at c0
          have C := Lib.hid c0; have D := Lib.hid d0; have R := Lib.hid r0; have R' := Lib.hid r0'; have Q' := Lib.hid q0
          clear c0 d0 r0 r0' q0 c d d1 hlt hz
          go_enter Try.func5, Try.ntmps5
          go_wp2_with fail
          refine (R'.out _).mono ?_
          rintro e w' ⟨rfl, rfl⟩
          go_wp2_with fail
          refine (Q'.out _).mono ?_
          rintro e w' ⟨rfl, rfl⟩
          go_wp2_with fail
          refine (C.out _).mono ?_
          rintro e w3 ⟨rfl, hb3⟩
          go_wp2_with fail
          refine (D.out _).mono ?_
          rintro e w4 ⟨rfl, hb4⟩
          have z4 : Below w.heap.size w w4 := hb3.trans (hb4.mono hb3.size)
          clear hb3 hb4
          go_wp2_with fail
          go_loop [13, 104] (fun t i => ∃ k : Nat, k ≤ len ∧ i = .int .i64 k ∧ t = .int .i64 (maxI (zs.take k))) (fun _ i => len - (intOf i).toNat)
          case atStart => exact ⟨0, Nat.zero_le _, rfl, rfl⟩
          case round =>
            obtain ⟨k, hk, rfl, rfl⟩ := hrel
            by_cases hlt : k < len
            · have hcell := X4.out w4 z4 k hlt
              obtain ⟨b', off, rfl, hcell⟩ := hcell
              have hs := Lib.hid (maxI_step zs k (by have := h1.out; omega))
              generalize zs.getD k 0 = x at *
              generalize maxI (zs.take k) = t at *
              go_wp2_with fail
              go_round
              case rel => exact ⟨k + 1, by omega, by go_num, by rw [hs.out]; exact congrArg (Value.int .i64) (by split <;> omega)⟩
              case measure => (simp [intOf]; try omega)
            · have e : Hid (maxI (zs.take k) = maxI zs) := by show _ = _; rw [List.take_of_length_le (by have := h1.out; omega)]
              rw [e.out]
              have M := Lib.hid (safemax_any a3 len cap zs w4 (h.out.kept z4))
              generalize maxI zs = t at *
              go_wp2_with fail
              refine M.out.mono ?_
              rintro e w' ⟨rfl, rfl⟩
              go_wp2_with fail
              refine (R.out _).mono ?_
              rintro e w5 ⟨rfl, hb5⟩
              go_wp2_with fail
              refine (R'.out _).mono ?_
              rintro e w' ⟨rfl, rfl⟩
              go_wp2_with fail
              refine (awake02_any _).mono ?_
              rintro e w6 ⟨rfl, hb6⟩
              go_wp2_with fail
              go_ret
              have z5 := z4.trans (hb5.mono z4.size)
              exact ⟨rfl, z5.trans (hb6.mono z5.size)⟩
end Go.Proofs.Ytofekhkggojpnaa
