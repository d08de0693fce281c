/-
  Contracts of the library's Len64, LeadingZeros64, Div64: the quotient and the remainder of a two-word number.
-/
import Derived.Test.YtgeomaaflajchaaFixW
import Derived.Test.YtgeomaaflajchaaLen64
import Derived.LoopTactic
import Derived.Deep.DeepCutAuto
import Derived.BigQuiet
import Derived.Deep.QuietTactic
import Derived.Lib.BitFns
import Derived.Deep.CutBlock
namespace Go.Proofs.Ytgeomaaflajchaa
open Go.RowKit
set_option linter.unusedVariables false
set_option linter.unusedSimpArgs false

theorem bitLen_bounds : ∀ (k x : Nat), x ≠ 0 → x < 2 ^ k → k ≤ 64 → 2 ^ (Lib.bitLen x - 1) ≤ x ∧ x < 2 ^ Lib.bitLen x ∧ 1 ≤ Lib.bitLen x
  | 0, x, h0, h, _ => by simp at h; omega
  | k + 1, x, h0, h, hk => by
    have hx : x < 2 ^ 64 := Nat.lt_of_lt_of_le h (Nat.pow_le_pow_right (by omega) hk)
    rw [Lib.bitLen_half x h0 hx]
    by_cases c : x / 2 = 0
    · rw [c]
      have e : Lib.bitLen 0 = 0 := rfl
      rw [e]
      simp
      omega
    · obtain ⟨g1, g2, g3⟩ := bitLen_bounds k (x / 2) c (by rw [Nat.pow_succ] at h; omega) (by omega)
      refine ⟨?_, ?_, by omega⟩
      · have e : 1 + Lib.bitLen (x / 2) - 1 = (Lib.bitLen (x / 2) - 1) + 1 := by omega
        rw [e, Nat.pow_succ]; omega
      · rw [Nat.add_comm, Nat.pow_succ]; omega

/-- The leading zeros of a word. -/
def lz (y : Int) : Nat := 64 - Lib.bitLen y.toNat

theorem lz_spec (y : Int) (h0 : 0 < y) (h1 : y < 18446744073709551616) : lz y ≤ 63 ∧ 9223372036854775808 ≤ y * 2 ^ lz y ∧ y * 2 ^ lz y < 18446744073709551616 := by
  obtain ⟨n, rfl⟩ := Int.eq_ofNat_of_zero_le (Int.le_of_lt h0)
  obtain ⟨g1, g2, g3⟩ := bitLen_bounds 64 n (by omega) (by omega) (by omega)
  have g4 : Lib.bitLen n ≤ 64 := Lib.bitLen_le n 64 (by omega) (by omega)
  unfold lz
  simp only [Int.toNat_natCast]
  generalize Lib.bitLen n = L at *
  have e1 : 2 ^ (L - 1) * 2 ^ (64 - L) = 9223372036854775808 := by
    rw [← Nat.pow_add, show L - 1 + (64 - L) = 63 from by omega]
  have e2 : 2 ^ L * 2 ^ (64 - L) = 18446744073709551616 := by
    rw [← Nat.pow_add, show L + (64 - L) = 64 from by omega]
  have p : 0 < 2 ^ (64 - L) := Nat.two_pow_pos _
  have m1 := Nat.mul_le_mul_right (2 ^ (64 - L)) g1
  have m2 := Nat.mul_lt_mul_of_pos_right g2 p
  rw [e1] at m1
  rw [e2] at m2
  refine ⟨by omega, ?_, ?_⟩
  · have := Int.ofNat_le.2 m1
    simpa using this
  · have := Int.ofNat_lt.2 m2
    simpa using this

theorem lzeros_any (y : Int) (w : World) (h0 : 0 ≤ y) (h1 : y < 18446744073709551616) :
    Calls Try.prog 37 #[.int .u64 y] w fun e w' => e = .returned (.int .i64 (lz y : Int)) ∧ w = w' := by
  have C := Lib.hid (len64_any y w h0 (by omega))
  have g4 : Lib.bitLen y.toNat ≤ 64 := Lib.bitLen_le y.toNat 64 (by omega) (by omega)
  have D : Hid (64 - (Lib.bitLen y.toNat : Int) = (lz y : Int)) := by unfold lz; show _ = _; omega
  generalize Lib.bitLen y.toNat = L at *
  go_enter Try.func37, Try.ntmps37
  go_wp2_with fail
  refine C.out.mono ?_
  rintro e w' ⟨rfl, rfl⟩
  go_wp2_with fail
  go_ret
  exact ⟨ret_int D.out, rfl⟩

set_option maxRecDepth 100000 in
set_option maxHeartbeats 2000000 in
theorem div64_any (hi lo y : Int) (w : World) (h0 : 0 ≤ hi) (l0 : 0 ≤ lo) (l1 : lo < 18446744073709551616) (hy : hi < y) (y1 : y < 18446744073709551616) :
    Calls Try.prog 36 #[.int .u64 hi, .int .u64 lo, .int .u64 y] w fun e w' => e = .returned (.tuple #[.int .u64 ((hi * 18446744073709551616 + lo) / y), .int .u64 ((hi * 18446744073709551616 + lo) % y)]) ∧ ∃ n, w' = w.drewN n := by
  have ny : (y == 0) = false := by rw [beq_eq_false_iff_ne]; omega
  have hy' : ¬ y ≤ hi := by omega
  by_cases c : hi = 0
  · subst c
    go_enter Try.func36, Try.ntmps36
    go_wp2_with fail
    go_quiet (fail)
    go_wp2_with fail
    go_ret2
    exact ⟨ret_two (by rw [Int.zero_mul, Int.zero_add]) (by rw [Int.zero_mul, Int.zero_add]), _, rfl⟩
  · have nh : (hi == 0) = false := by rw [beq_eq_false_iff_ne]; omega
    have hp : 0 < hi := by omega
    obtain ⟨z1, z2, z3⟩ := lz_spec y (by omega) y1
    have C := Lib.hid (lzeros_any y w (by omega) y1)
    clear c
    generalize lz y = s at *
    obtain ⟨n1, n2, n3, n4, n5⟩ := norm_spec hi lo y s z1 h0 hy l0 l1 z3
    have T := fun a b => two_digits (hi * 18446744073709551616 + lo) y (2 ^ s) (hi * 2 ^ s + lo / 2 ^ (64 - s)) (IntKind.u64.wrap (lo * 2 ^ s)) (pow_pos2 s) (by omega) n5 (by rw [wrap64u]; omega) (by rw [wrap64u]; omega) a b
    have w0 : 0 ≤ IntKind.u64.wrap (lo * 2 ^ s) := by rw [wrap64u]; omega
    have w1 : IntKind.u64.wrap (lo * 2 ^ s) < 18446744073709551616 := by rw [wrap64u]; omega
    have u0 : 0 ≤ hi * 2 ^ s + lo / 2 ^ (64 - s) := by omega
    clear n5
    obtain ⟨Y, hY⟩ : ∃ Y, y * 2 ^ s = Y := ⟨_, rfl⟩
    obtain ⟨U, hU⟩ : ∃ U, hi * 2 ^ s + lo / 2 ^ (64 - s) = U := ⟨_, rfl⟩
    obtain ⟨W, hW⟩ : ∃ W, IntKind.u64.wrap (lo * 2 ^ s) = W := ⟨_, rfl⟩
    have n6 : hi * 2 ^ s < 18446744073709551616 := by omega
    rw [hU] at n4 n2 u0
    rw [hY] at n2 z2 z3
    rw [hW] at w0 w1
    simp only [hY, hU, hW] at T
    obtain ⟨yh, hyh⟩ : ∃ yh, Y / 4294967296 = yh := ⟨_, rfl⟩
    obtain ⟨yl, hyl⟩ : ∃ yl, Y % 4294967296 = yl := ⟨_, rfl⟩
    obtain ⟨c1, hc1⟩ : ∃ c1, W / 4294967296 = c1 := ⟨_, rfl⟩
    obtain ⟨c0, hc0⟩ : ∃ c0, W % 4294967296 = c0 := ⟨_, rfl⟩
    have eY : Y = yh * 4294967296 + yl := by omega
    have bh0 : 2147483648 ≤ yh := by omega
    have bh1 : yh < 4294967296 := by omega
    have bl0 : 0 ≤ yl := by omega
    have bl1 : yl < 4294967296 := by omega
    have bc0 : 0 ≤ c0 := by omega
    have bc0' : c0 < 4294967296 := by omega
    have bc1 : 0 ≤ c1 := by omega
    have bc1' : c1 < 4294967296 := by omega
    obtain ⟨q, hq⟩ : ∃ q, U / yh = q := ⟨_, rfl⟩
    obtain ⟨D, hD⟩ : ∃ D, (U * 4294967296 + c1) / Y = D := ⟨_, rfl⟩
    have dr := dig_rest (U := U) (yh := yh) (by omega)
    have ds := dig_start (U := U) (Y := Y) (yh := yh) (yl := yl) (c := c1) (by omega) eY (by omega) bl0 bc1' u0
    have hqu : U / yh ≤ U := Int.ediv_le_self _ u0
    have hqn : 0 ≤ U / yh := Int.ediv_nonneg u0 (by omega)
    obtain ⟨dr1, dr2, dr3, dr4⟩ := dr
    rw [hq] at dr1 dr2 dr3 dr4 ds hqu hqn
    rw [hD] at ds
    rw [hc1, hc0] at T
    rw [hD] at T
    have dm := Int.mul_nonneg hqn (show 0 ≤ yh by omega)
    have aY := and32 Y (by omega) (by omega)
    have aW := and32 W (by omega) (by omega)
    rw [hyl] at aY
    rw [hc0] at aW
    have HT := Lib.hid T; clear T
    have HD1 := Lib.hid dr1; clear dr1
    have HU := Lib.hid hU; clear hU
    have EY := Lib.hid eY; clear eY
    have HD := Lib.hid hD; clear hD
    go_enter Try.func36, Try.ntmps36
    go_wp2_with fail
    refine C.out.mono ?_
    rintro e w' ⟨rfl, rfl⟩
    go_upto_block 0 with (fail)
    clear hY hW hyh hyl hc1 hc0 aY aW n4 ny nh
    rw [hq]
    clear hq
    generalize hR : U - q * yh = r0 at *
    have HR := Lib.hid hR; clear hR
    go_cut [15, 16] (fun s15 s16 wx => s15 = .int .u64 D ∧ (∃ r, s16 = .int .u64 r) ∧ wx = w)
    case first =>
      go_wp2_with fail
      go_loop [15, 16] (fun s15 s16 => ∃ q r : Int, s15 = .int .u64 q ∧ s16 = .int .u64 r ∧ Hid (q * yh + r = U) ∧ D ≤ q ∧ 0 ≤ r ∧ r < 4294967296 ∧ 0 ≤ q ∧ q < 18446744073709551616) (fun s15 _ => (intOf s15).toNat)
      case atStart => exact ⟨q, r0, rfl, rfl, HD1, ds, dr2, by omega, hqn, by omega⟩
      case round =>
        obtain ⟨p, r, rfl, rfl, hp1, hp2, hp3, hp4, hp5, hp6⟩ := hrel
        have pm := prod_le hp5 bl0 (Int.le_refl p) (show yl ≤ 4294967295 by omega)
        by_cases g1 : 4294967296 ≤ p
        · have k1 : D ≤ p - 1 := by rw [← HD.out]; exact dig_big (by omega) n2 bc1' g1
          have kr : Hid ((p - 1) * yh + (r + yh) = U) := by have := hp1.out; show _ = _; rw [Int.sub_mul]; omega
          clear pm
          by_cases g3 : r + yh < 4294967296
          · go_wp2_with fail
            go_round
            case rel => exact ⟨p - 1, r + yh, rfl, rfl, kr, k1, by omega, g3, by omega, by omega⟩
            case measure => (simp [intOf]; try omega)
          · have k2 : p - 1 < 4294967296 := by
              by_cases g4 : 4294967296 ≤ p - 1
              · have := dig_nobreak EY.out n2 kr.out bl1 (by omega) g4
                omega
              · omega
            have k3 : p - 1 = D := by
              have := dig_break (c := c1) (by omega) EY.out kr.out bl0 bl1 bc1 (by omega) k2 (by omega)
              rw [HD.out] at this
              omega
            have K3 := Lib.hid k3; clear k3
            go_wp2_with fail
            go_meet
            exact ⟨by rw [K3.out], ⟨_, rfl⟩, rfl⟩
        · have pm2 : p * yl ≤ 18446744065119617025 := (half_prod hp5 bl0 (by omega) (by omega)).2
          obtain ⟨pm1, pm3⟩ := pm
          by_cases g2 : 4294967296 * r + c1 < p * yl
          · have k1 : D ≤ p - 1 := by rw [← HD.out]; exact dig_gt (by omega) EY.out hp1.out (by omega)
            have kr : Hid ((p - 1) * yh + (r + yh) = U) := by have := hp1.out; show _ = _; rw [Int.sub_mul]; omega
            have kp : 1 ≤ p := by
              by_cases g5 : p = 0
              · subst g5; rw [Int.zero_mul] at g2; omega
              · omega
            by_cases g3 : r + yh < 4294967296
            · go_wp2_with fail
              go_round
              case rel => exact ⟨p - 1, r + yh, rfl, rfl, kr, k1, by omega, g3, by omega, by omega⟩
              case measure => (simp [intOf]; try omega)
            · have k3 : p - 1 = D := by
                have := dig_break (c := c1) (by omega) EY.out kr.out bl0 bl1 bc1 (by omega) (by omega) (by omega)
                rw [HD.out] at this
                omega
              have K3 := Lib.hid k3; clear k3
              go_wp2_with fail
              go_meet
              exact ⟨by rw [K3.out], ⟨_, rfl⟩, rfl⟩
          · have k3 : p = D := by
              have := dig_le (c := c1) (by omega) EY.out hp1.out (by omega)
              rw [HD.out] at this
              omega
            have K3 := Lib.hid k3; clear k3
            go_wp2_with fail
            go_meet
            exact ⟨by rw [K3.out], ⟨_, rfl⟩, rfl⟩
    case rest =>
      obtain ⟨rfl, ⟨r, rfl⟩, rfl⟩ := hcut
      clear ds hqu hqn dr2 dr3 dr4 dm HD1 HR HU
      obtain ⟨a1, a4, a2, a3⟩ := dig_next U c1 Y D (by omega) z3 HD.out
      have hD1 : D < 4294967296 := by rw [← HD.out]; exact dig_lt (by omega) n2 bc1'
      have hD0 : 0 ≤ D := by rw [← HD.out]; exact Int.ediv_nonneg (by omega) (by omega)
      have T2 := HT.out ((U * 4294967296 + c1) % Y) ((((U * 4294967296 + c1) % Y) * 4294967296 + c0) / Y) rfl rfl
      clear a4 HT
      generalize (U * 4294967296 + c1) % Y = A at *
      obtain ⟨E, hE⟩ : ∃ E, (A * 4294967296 + c0) / Y = E := ⟨_, rfl⟩
      obtain ⟨q2, hq2⟩ : ∃ q2, A / yh = q2 := ⟨_, rfl⟩
      have er := dig_rest (U := A) (yh := yh) (by omega)
      have es := dig_start (U := A) (Y := Y) (yh := yh) (yl := yl) (c := c0) (by omega) EY.out (by omega) bl0 bc0' a2
      have equ : A / yh ≤ A := Int.ediv_le_self _ a2
      have eqn : 0 ≤ A / yh := Int.ediv_nonneg a2 (by omega)
      obtain ⟨er1, er2, er3, er4⟩ := er
      rw [hq2] at er1 er2 er3 er4 es equ eqn
      rw [hE] at es T2
      have em := Int.mul_nonneg eqn (show 0 ≤ yh by omega)
      have HE1 := Lib.hid er1; clear er1
      have HE := Lib.hid hE; clear hE
      have HT2 := Lib.hid T2; clear T2
      go_upto_block 2 with (fail)
      rw [hq2]
      clear hq2 a1
      generalize hR : A - q2 * yh = r2 at *
      have HR := Lib.hid hR; clear hR
      go_cut [18, 16] (fun s18 s16 wx => s18 = .int .u64 E ∧ (∃ r, s16 = .int .u64 r) ∧ wx = wc)
      case first =>
        go_wp2_with fail
        go_loop [18, 16] (fun s18 s16 => ∃ q r : Int, s18 = .int .u64 q ∧ s16 = .int .u64 r ∧ Hid (q * yh + r = A) ∧ E ≤ q ∧ 0 ≤ r ∧ r < 4294967296 ∧ 0 ≤ q ∧ q < 18446744073709551616) (fun s18 _ => (intOf s18).toNat)
        case atStart => exact ⟨q2, r2, rfl, rfl, HE1, es, er2, by omega, eqn, by omega⟩
        case round =>
          obtain ⟨p, r, rfl, rfl, hp1, hp2, hp3, hp4, hp5, hp6⟩ := hrel
          have pm := prod_le hp5 bl0 (Int.le_refl p) (show yl ≤ 4294967295 by omega)
          by_cases g1 : 4294967296 ≤ p
          · have k1 : E ≤ p - 1 := by rw [← HE.out]; exact dig_big (by omega) a3 bc0' g1
            have kr : Hid ((p - 1) * yh + (r + yh) = A) := by have := hp1.out; show _ = _; rw [Int.sub_mul]; omega
            clear pm
            by_cases g3 : r + yh < 4294967296
            · go_wp2_with fail
              go_round
              case rel => exact ⟨p - 1, r + yh, rfl, rfl, kr, k1, by omega, g3, by omega, by omega⟩
              case measure => (simp [intOf]; try omega)
            · have k2 : p - 1 < 4294967296 := by
                by_cases g4 : 4294967296 ≤ p - 1
                · have := dig_nobreak EY.out a3 kr.out bl1 (by omega) g4
                  omega
                · omega
              have k3 : p - 1 = E := by
                have := dig_break (c := c0) (by omega) EY.out kr.out bl0 bl1 bc0 (by omega) k2 (by omega)
                rw [HE.out] at this
                omega
              have K3 := Lib.hid k3; clear k3
              go_wp2_with fail
              go_meet
              exact ⟨by rw [K3.out], ⟨_, rfl⟩, rfl⟩
          · have pm2 : p * yl ≤ 18446744065119617025 := (half_prod hp5 bl0 (by omega) (by omega)).2
            obtain ⟨pm1, pm3⟩ := pm
            by_cases g2 : 4294967296 * r + c0 < p * yl
            · have k1 : E ≤ p - 1 := by rw [← HE.out]; exact dig_gt (by omega) EY.out hp1.out (by omega)
              have kr : Hid ((p - 1) * yh + (r + yh) = A) := by have := hp1.out; show _ = _; rw [Int.sub_mul]; omega
              have kp : 1 ≤ p := by
                by_cases g5 : p = 0
                · subst g5; rw [Int.zero_mul] at g2; omega
                · omega
              by_cases g3 : r + yh < 4294967296
              · go_wp2_with fail
                go_round
                case rel => exact ⟨p - 1, r + yh, rfl, rfl, kr, k1, by omega, g3, by omega, by omega⟩
                case measure => (simp [intOf]; try omega)
              · have k3 : p - 1 = E := by
                  have := dig_break (c := c0) (by omega) EY.out kr.out bl0 bl1 bc0 (by omega) (by omega) (by omega)
                  rw [HE.out] at this
                  omega
                have K3 := Lib.hid k3; clear k3
                go_wp2_with fail
                go_meet
                exact ⟨by rw [K3.out], ⟨_, rfl⟩, rfl⟩
            · have k3 : p = E := by
                have := dig_le (c := c0) (by omega) EY.out hp1.out (by omega)
                rw [HE.out] at this
                omega
              have K3 := Lib.hid k3; clear k3
              go_wp2_with fail
              go_meet
              exact ⟨by rw [K3.out], ⟨_, rfl⟩, rfl⟩
      case rest =>
        obtain ⟨rfl, ⟨r, rfl⟩, rfl⟩ := hcut
        clear es equ eqn er2 er3 er4 em HE1 HR
        obtain ⟨f1, f4, f2, f3⟩ := dig_next A c0 Y E (by omega) z3 HE.out
        have hE1 : E < 4294967296 := by rw [← HE.out]; exact dig_lt (by omega) a3 bc0'
        have hE0 : 0 ≤ E := by rw [← HE.out]; exact Int.ediv_nonneg (by omega) (by omega)
        have F : Hid ((A * 4294967296 + c0) % Y = A * 4294967296 + c0 - E * Y) := f4
        clear f4
        generalize (A * 4294967296 + c0) % Y = B at *
        go_wp2_with fail
        go_ret2
        exact ⟨ret_two HT2.out.1 (by rw [F.out]; exact HT2.out.2), 0, rfl⟩
end Go.Proofs.Ytgeomaaflajchaa
