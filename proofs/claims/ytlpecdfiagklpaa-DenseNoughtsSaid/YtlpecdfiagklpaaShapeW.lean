/-
  Contracts of package shape: the sides, Size, Right; and of its reference: Right, Size.
-/
import Derived.Test.YtlpecdfiagklpaaSafeF
import Derived.Test.YtlpecdfiagklpaaShapeMath
namespace Go.Proofs.Ytlpecdfiagklpaa
open Go.RowKit
set_option linter.unusedVariables false
set_option linter.unusedSimpArgs false

set_option maxHeartbeats 400000 in
theorem isSide_any (n : Int) (w : World) :
    Calls Try.prog 55 #[.int .i64 n] w fun e w' => e = .returned (.bool (inR 1 1024 n)) ∧ w = w' := by
  by_cases c : 1 ≤ n
  · by_cases d : n ≤ 1024
    · have E := Lib.hid (inR_yes c d).symm
      go_enter Try.func55, Try.ntmps55
      go_wp2_with fail
      go_ret
      exact ⟨ret_bool E.out, rfl⟩
    · have E := Lib.hid (inR_high (lo := 1) d).symm
      go_enter Try.func55, Try.ntmps55
      go_wp2_with fail
      go_ret
      exact ⟨ret_bool E.out, rfl⟩
  · have E := Lib.hid (inR_low (hi := 1024) c).symm
    go_enter Try.func55, Try.ntmps55
    go_wp2_with fail
    go_ret
    exact ⟨ret_bool E.out, rfl⟩

set_option maxHeartbeats 1000000 in
theorem size_any (a : Option Addr) (len cap : Nat) (zs : List Int) (w : World) (h : IntsAt w a len zs) :
    Calls Try.prog 41 #[.slice a len cap] w fun e w' => e = .returned (.tuple #[.int .i64 (sizeN zs), .int .i64 (sizeE zs)]) ∧ Below w.heap.size w w' := by
  by_cases g0 : len < 1
  · have E := Lib.hid (size_no (rightS_short (l := zs) (by have := h.1; omega)))
    clear h
    go_enter Try.func41, Try.ntmps41
    go_wp2_with fail
    go_ret2
    exact ⟨ret_ints2 E.out.1 E.out.2, Below.refl _ _⟩
  by_cases g4 : 4 < len
  · have E := Lib.hid (size_no (rightS_long (l := zs) (by have := h.1; omega)))
    clear h
    go_enter Try.func41, Try.ntmps41
    go_wp2_with fail
    go_ret2
    exact ⟨ret_ints2 E.out.1 E.out.2, Below.refl _ _⟩
  have H := Lib.hid h
  obtain ⟨h1, h2, h3, h4⟩ := h
  have hl := Lib.hid h1
  go_enter Try.func41, Try.ntmps41
  go_wp2_with fail
  go_loop [18] (fun i => ∃ k : Nat, k ≤ len ∧ i = .int .i64 k ∧ Hid (allR 1 1024 (zs.take k) = true)) (fun i => len - (intOf i).toNat)
  case atStart => exact ⟨0, Nat.zero_le _, rfl, rfl⟩
  case round =>
    obtain ⟨k, hk, rfl, hall⟩ := hrel
    by_cases hlt : k < len
    · rcases h4 with h4 | ⟨b, off, rfl, hc⟩
      · omega
      · have hcell := hc k hlt
        clear hc
        have S := Lib.hid (allR_step 1 1024 zs k (by omega) hall.out)
        have T := Lib.hid (allR_stop 1 1024 zs k (by omega))
        generalize zs.getD k 0 = x at *
        clear h1 h3
        have C := Lib.hid (isSide_any x w)
        cases c : inR 1 1024 x
        · have C2 := C.out
          rw [c] at C2
          have C3 := Lib.hid C2
          have T2 := Lib.hid (size_no (rightS_side (T.out c).symm))
          clear C2 C T S c
          go_wp2_with fail
          refine C3.out.mono ?_
          rintro e w1 ⟨rfl, rfl⟩
          go_wp2_with fail
          go_ret2
          exact ⟨ret_ints2 T2.out.1 T2.out.2, Below.refl _ _⟩
        · have C2 := C.out
          rw [c] at C2
          have C3 := Lib.hid C2
          have T2 := Lib.hid (S.out c)
          clear C2 C T S c
          go_wp2_with fail
          refine C3.out.mono ?_
          rintro e w1 ⟨rfl, rfl⟩
          go_wp2_with fail
          go_round
          case rel => exact ⟨k + 1, by omega, by go_num, T2⟩
          case measure => (simp [intOf]; try omega)
    · have c' := Lib.hid (allR_full 1 1024 zs k (by omega) hall.out).symm
      clear hall h4
      have c0 := safemul_any a len cap zs w H.out
      obtain ⟨m1, m2⟩ := mul_shape c'.out (by omega)
      rw [m1, m2] at c0
      have M := Lib.hid c0
      clear m1 m2 c0
      by_cases big : 65536 < prodI zs
      · have E := Lib.hid (size_no (rightS_big big))
        generalize prodI zs = t at *
        clear h1 h3
        go_wp2_with fail
        refine M.out.mono ?_
        rintro e w1 ⟨rfl, hb⟩
        go_wp2_with fail
        go_ret2
        exact ⟨ret_ints2 E.out.1 E.out.2, hb⟩
      · have E := Lib.hid (size_yes (rightS_yes (l := zs) (by omega) (by omega) c'.out (by omega)))
        generalize prodI zs = t at *
        clear h1 h3
        go_wp2_with fail
        refine M.out.mono ?_
        rintro e w1 ⟨rfl, hb⟩
        go_wp2_with fail
        go_ret2
        exact ⟨ret_ints2 E.out.1 E.out.2, hb⟩

theorem sizeE_yes {l : List Int} (h : rightS l = true) : sizeE l = 0 := by simp [sizeE, h]
theorem sizeE_no {l : List Int} (h : rightS l = false) : sizeE l = 20 := by simp [sizeE, h]
theorem sizeN_yes {l : List Int} (h : rightS l = true) : sizeN l = prodI l := by simp [sizeN, h]
theorem sizeN_no {l : List Int} (h : rightS l = false) : sizeN l = 0 := by simp [sizeN, h]

theorem pow_small (k : Nat) (h : k ≤ 3) : (1024 : Int) ^ k ≤ 1073741824 := by
  match k, h with
  | 0, _ => decide
  | 1, _ => decide
  | 2, _ => decide
  | 3, _ => decide

set_option maxHeartbeats 1000000 in
theorem refshape_any (a : Option Addr) (len cap : Nat) (zs : List Int) (w : World) (h : IntsAt w a len zs) :
    Calls Try.prog 36 #[.slice a len cap] w fun e w' => e = .returned (.bool (rightS zs)) ∧ w = w' := by
  by_cases g0 : len < 1
  · have E := Lib.hid (rightS_short (l := zs) (by have := h.1; omega)).symm
    clear h
    go_enter Try.func36, Try.ntmps36
    go_wp2_with fail
    go_ret
    exact ⟨ret_bool E.out, rfl⟩
  by_cases g4 : 4 < len
  · have E := Lib.hid (rightS_long (l := zs) (by have := h.1; omega)).symm
    clear h
    go_enter Try.func36, Try.ntmps36
    go_wp2_with fail
    go_ret
    exact ⟨ret_bool E.out, rfl⟩
  obtain ⟨h1, h2, h3, h4⟩ := h
  have hl := Lib.hid h1
  go_enter Try.func36, Try.ntmps36
  go_wp2_with fail
  go_loop [3, 4] (fun n i => ∃ k : Nat, k ≤ len ∧ i = .int .i64 k ∧ n = .int .i64 (prodI (zs.take k)) ∧ Hid (allR 1 1024 (zs.take k) = true)) (fun _ i => len - (intOf i).toNat)
  case atStart => exact ⟨0, Nat.zero_le _, rfl, rfl, rfl⟩
  case round =>
    obtain ⟨k, hk, rfl, rfl, hall⟩ := hrel
    by_cases hlt : k < len
    · rcases h4 with h4 | ⟨b, off, rfl, hc⟩
      · omega
      · have hcell := hc k hlt
        clear hc
        have S := Lib.hid (allR_step 1 1024 zs k (by omega) hall.out)
        have T := Lib.hid (allR_stop 1 1024 zs k (by omega))
        have P1 := prodI_pos hall.out
        have P2 := prodI_pow hall.out
        rw [List.length_take_of_le (by omega)] at P2
        have P3 := pow_small k (by omega)
        have hs := Lib.hid (prodI_step zs k (by omega))
        have B := h3.getD k
        generalize zs.getD k 0 = x at *
        generalize prodI (zs.take k) = t at *
        have t1 : t ≤ 1073741824 := by omega
        clear P2 P3 hall h1 h3
        by_cases c1 : x < 1
        · have T2 := Lib.hid (rightS_side (T.out (inR_low (by omega))).symm).symm
          clear T S
          go_wp2_with fail
          go_ret
          exact ⟨ret_bool T2.out, rfl⟩
        by_cases c2 : 1024 < x
        · have T2 := Lib.hid (rightS_side (T.out (inR_high (by omega))).symm).symm
          clear T S
          go_wp2_with fail
          go_ret
          exact ⟨ret_bool T2.out, rfl⟩
        · have S2 := Lib.hid (S.out (inR_yes (by omega) (by omega)))
          have q1 := Int.mul_le_mul t1 (show x ≤ 1024 by omega) (by omega) (by omega)
          have q2 := Int.mul_le_mul P1 (show 1 ≤ x by omega) (by omega) (by omega)
          have q3 : t * x ≤ 1099511627776 := by omega
          have q4 : 0 ≤ t * x := by omega
          clear T S q1 q2
          go_wp2_with fail
          go_round
          case rel => exact ⟨k + 1, by omega, by go_num, by rw [hs.out], S2⟩
          case measure => (simp [intOf]; try omega)
    · have c' := Lib.hid (allR_full 1 1024 zs k (by omega) hall.out).symm
      have e : zs.take k = zs := List.take_of_length_le (by omega)
      rw [e]
      clear hall h4 e
      by_cases big : 65536 < prodI zs
      · have E := Lib.hid (rightS_big big).symm
        generalize prodI zs = t at *
        clear h1 h3
        go_wp2_with fail
        go_ret
        exact ⟨ret_bool (by rw [decide_eq_false (by omega)]; exact E.out), rfl⟩
      · have E := Lib.hid (rightS_yes (l := zs) (by omega) (by omega) c'.out (by omega)).symm
        generalize prodI zs = t at *
        clear h1 h3
        go_wp2_with fail
        go_ret
        exact ⟨ret_bool E.out, rfl⟩

set_option maxHeartbeats 1000000 in
theorem refsize_any (a : Option Addr) (len cap : Nat) (zs : List Int) (w : World) (h : IntsAt w a len zs) (hr : rightS zs = true) :
    Calls Try.prog 37 #[.slice a len cap] w fun e w' => e = .returned (.int .i64 (prodI zs)) ∧ w = w' := by
  obtain ⟨r1, r2, r3', r4⟩ := rightS_parts hr
  have r3 := Lib.hid r3'
  clear hr r3'
  obtain ⟨h1, h2, h3, h4⟩ := h
  have hl := Lib.hid h1
  go_enter Try.func37, Try.ntmps37
  go_wp2_with fail
  go_loop [3, 4] (fun n i => ∃ k : Nat, k ≤ len ∧ i = .int .i64 k ∧ n = .int .i64 (prodI (zs.take k))) (fun _ i => len - (intOf i).toNat)
  case atStart => exact ⟨0, Nat.zero_le _, rfl, rfl⟩
  case round =>
    obtain ⟨k, hk, rfl, rfl⟩ := hrel
    by_cases hlt : k < len
    · rcases h4 with h4 | ⟨b, off, rfl, hc⟩
      · omega
      · have hcell := hc k hlt
        clear hc
        have P1 := prodI_pos (allR_take r3.out k)
        have P2 := prodI_take_le r3.out k
        have P3 := prodI_take_le r3.out (k + 1)
        have P4 := prodI_pos (allR_take r3.out (k + 1))
        have hs := prodI_step zs k (by omega)
        rw [hs] at P3 P4
        replace hs := Lib.hid hs
        obtain ⟨x1, x2⟩ := allR_getD r3.out k (by omega)
        generalize zs.getD k 0 = x at *
        generalize prodI (zs.take k) = t at *
        generalize prodI zs = T at *
        have q3 : t * x ≤ 65536 := by omega
        have q4 : 0 ≤ t * x := by omega
        clear P3 P4 h1 h3
        go_wp2_with fail
        go_round
        case rel => exact ⟨k + 1, by omega, by go_num, by rw [hs.out]⟩
        case measure => (simp [intOf]; try omega)
    · have e : zs.take k = zs := List.take_of_length_le (by omega)
      rw [e]
      obtain ⟨t, ht⟩ : ∃ t, prodI zs = t := ⟨_, rfl⟩
      rw [ht]
      replace ht := Lib.hid ht
      clear h1 h3 h4 e
      go_wp2_with fail
      go_ret
      exact ⟨ret_int ht.out.symm, rfl⟩
end Go.Proofs.Ytlpecdfiagklpaa
