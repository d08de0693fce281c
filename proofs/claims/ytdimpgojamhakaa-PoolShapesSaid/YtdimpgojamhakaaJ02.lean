import Derived.Test.YtdimpgojamhakaaJ00
import Derived.Test.YtdimpgojamhakaaJ01
import Derived.Test.YtdimpgojamhakaaLen64
import Derived.LoopTactic
import Derived.Deep.DeepCutAuto
import Derived.BigQuiet
import Derived.Deep.QuietTactic
import Derived.Lib.BitFns
import Derived.Deep.CutBlock
import Derived.OpenShut
import Derived.Deep.RegionHeld3
import Derived.Laws.AppendOwnNone
import Derived.Deep.AppendLies
import Derived.Tactics
import Derived.Tactics2
import Derived.Defers
import Derived.Recover
import Derived.Laws.Pointers
import Derived.Laws.OwnMore
/-
  Contracts of the library's Len64, LeadingZeros64, Div64: the quotient and the remainder of a two-word number.
-/
namespace Go.Proofs.Ytdimpgojamhakaa
open Go.RowKit
set_option linter.unusedVariables false
set_option linter.unusedSimpArgs false

theorem bitLen_bounds : ∀ (k x : Nat), x ≠ 0 → x < 2 ^ k → k ≤ 64 → 2 ^ (Lib.bitLen x - 1) ≤ x ∧ x < 2 ^ Lib.bitLen x ∧ 1 ≤ Lib.bitLen x
  | 0, x, h0, h, _ => by simp at h; omega
  | k + 1, x, h0, h, hk => by
    have hx : x < 2 ^ 64 := Nat.lt_of_lt_of_le h (Nat.pow_le_pow_right (by omega) hk)
    rw [Lib.bitLen_half x h0 hx]
    by_cases c : x / 2 = 0
    · rw [c]
      have e : Lib.bitLen 0 = 0 := rfl
      rw [e]
      simp
      omega
    · obtain ⟨g1, g2, g3⟩ := bitLen_bounds k (x / 2) c (by rw [Nat.pow_succ] at h; omega) (by omega)
      refine ⟨?_, ?_, by omega⟩
      · have e : 1 + Lib.bitLen (x / 2) - 1 = (Lib.bitLen (x / 2) - 1) + 1 := by omega
        rw [e, Nat.pow_succ]; omega
      · rw [Nat.add_comm, Nat.pow_succ]; omega

/-- The leading zeros of a word. -/
def lz (y : Int) : Nat := 64 - Lib.bitLen y.toNat

theorem lz_spec (y : Int) (h0 : 0 < y) (h1 : y < 18446744073709551616) : lz y ≤ 63 ∧ 9223372036854775808 ≤ y * 2 ^ lz y ∧ y * 2 ^ lz y < 18446744073709551616 := by
  obtain ⟨n, rfl⟩ := Int.eq_ofNat_of_zero_le (Int.le_of_lt h0)
  obtain ⟨g1, g2, g3⟩ := bitLen_bounds 64 n (by omega) (by omega) (by omega)
  have g4 : Lib.bitLen n ≤ 64 := Lib.bitLen_le n 64 (by omega) (by omega)
  unfold lz
  simp only [Int.toNat_natCast]
  generalize Lib.bitLen n = L at *
  have e1 : 2 ^ (L - 1) * 2 ^ (64 - L) = 9223372036854775808 := by
    rw [← Nat.pow_add, show L - 1 + (64 - L) = 63 from by omega]
  have e2 : 2 ^ L * 2 ^ (64 - L) = 18446744073709551616 := by
    rw [← Nat.pow_add, show L + (64 - L) = 64 from by omega]
  have p : 0 < 2 ^ (64 - L) := Nat.two_pow_pos _
  have m1 := Nat.mul_le_mul_right (2 ^ (64 - L)) g1
  have m2 := Nat.mul_lt_mul_of_pos_right g2 p
  rw [e1] at m1
  rw [e2] at m2
  refine ⟨by omega, ?_, ?_⟩
  · have := Int.ofNat_le.2 m1
    simpa using this
  · have := Int.ofNat_lt.2 m2
    simpa using this

theorem lzeros_any (y : Int) (w : World) (h0 : 0 ≤ y) (h1 : y < 18446744073709551616) :
    Calls Try.prog 69 #[.int .u64 y] w fun e w' => e = .returned (.int .i64 (lz y : Int)) ∧ w = w' := by
  have C := Lib.hid (len64_any y w h0 (by omega))
  have g4 : Lib.bitLen y.toNat ≤ 64 := Lib.bitLen_le y.toNat 64 (by omega) (by omega)
  have D : Hid (64 - (Lib.bitLen y.toNat : Int) = (lz y : Int)) := by unfold lz; show _ = _; omega
  generalize Lib.bitLen y.toNat = L at *
  go_enter Try.func69, Try.ntmps69
  go_wp2_with fail
  refine C.out.mono ?_
  rintro e w' ⟨rfl, rfl⟩
  go_wp2_with fail
  go_ret
  exact ⟨ret_int D.out, rfl⟩

set_option maxRecDepth 100000 in
set_option maxHeartbeats 2000000 in
theorem div64_any (hi lo y : Int) (w : World) (h0 : 0 ≤ hi) (l0 : 0 ≤ lo) (l1 : lo < 18446744073709551616) (hy : hi < y) (y1 : y < 18446744073709551616) :
    Calls Try.prog 67 #[.int .u64 hi, .int .u64 lo, .int .u64 y] w fun e w' => e = .returned (.tuple #[.int .u64 ((hi * 18446744073709551616 + lo) / y), .int .u64 ((hi * 18446744073709551616 + lo) % y)]) ∧ ∃ n, w' = w.drewN n := by
  have ny : (y == 0) = false := by rw [beq_eq_false_iff_ne]; omega
  have hy' : ¬ y ≤ hi := by omega
  by_cases c : hi = 0
  · subst c
    go_enter Try.func67, Try.ntmps67
    go_wp2_with fail
    go_quiet (fail)
    go_wp2_with fail
    go_ret2
    exact ⟨ret_two (by rw [Int.zero_mul, Int.zero_add]) (by rw [Int.zero_mul, Int.zero_add]), _, rfl⟩
  · have nh : (hi == 0) = false := by rw [beq_eq_false_iff_ne]; omega
    have hp : 0 < hi := by omega
    obtain ⟨z1, z2, z3⟩ := lz_spec y (by omega) y1
    have C := Lib.hid (lzeros_any y w (by omega) y1)
    clear c
    generalize lz y = s at *
    obtain ⟨n1, n2, n3, n4, n5⟩ := norm_spec hi lo y s z1 h0 hy l0 l1 z3
    have T := fun a b => two_digits (hi * 18446744073709551616 + lo) y (2 ^ s) (hi * 2 ^ s + lo / 2 ^ (64 - s)) (IntKind.u64.wrap (lo * 2 ^ s)) (pow_pos2 s) (by omega) n5 (by rw [wrap64u]; omega) (by rw [wrap64u]; omega) a b
    have w0 : 0 ≤ IntKind.u64.wrap (lo * 2 ^ s) := by rw [wrap64u]; omega
    have w1 : IntKind.u64.wrap (lo * 2 ^ s) < 18446744073709551616 := by rw [wrap64u]; omega
    have u0 : 0 ≤ hi * 2 ^ s + lo / 2 ^ (64 - s) := by omega
    clear n5
    obtain ⟨Y, hY⟩ : ∃ Y, y * 2 ^ s = Y := ⟨_, rfl⟩
    obtain ⟨U, hU⟩ : ∃ U, hi * 2 ^ s + lo / 2 ^ (64 - s) = U := ⟨_, rfl⟩
    obtain ⟨W, hW⟩ : ∃ W, IntKind.u64.wrap (lo * 2 ^ s) = W := ⟨_, rfl⟩
    have n6 : hi * 2 ^ s < 18446744073709551616 := by omega
    rw [hU] at n4 n2 u0
    rw [hY] at n2 z2 z3
    rw [hW] at w0 w1
    simp only [hY, hU, hW] at T
    obtain ⟨yh, hyh⟩ : ∃ yh, Y / 4294967296 = yh := ⟨_, rfl⟩
    obtain ⟨yl, hyl⟩ : ∃ yl, Y % 4294967296 = yl := ⟨_, rfl⟩
    obtain ⟨c1, hc1⟩ : ∃ c1, W / 4294967296 = c1 := ⟨_, rfl⟩
    obtain ⟨c0, hc0⟩ : ∃ c0, W % 4294967296 = c0 := ⟨_, rfl⟩
    have eY : Y = yh * 4294967296 + yl := by omega
    have bh0 : 2147483648 ≤ yh := by omega
    have bh1 : yh < 4294967296 := by omega
    have bl0 : 0 ≤ yl := by omega
    have bl1 : yl < 4294967296 := by omega
    have bc0 : 0 ≤ c0 := by omega
    have bc0' : c0 < 4294967296 := by omega
    have bc1 : 0 ≤ c1 := by omega
    have bc1' : c1 < 4294967296 := by omega
    obtain ⟨q, hq⟩ : ∃ q, U / yh = q := ⟨_, rfl⟩
    obtain ⟨D, hD⟩ : ∃ D, (U * 4294967296 + c1) / Y = D := ⟨_, rfl⟩
    have dr := dig_rest (U := U) (yh := yh) (by omega)
    have ds := dig_start (U := U) (Y := Y) (yh := yh) (yl := yl) (c := c1) (by omega) eY (by omega) bl0 bc1' u0
    have hqu : U / yh ≤ U := Int.ediv_le_self _ u0
    have hqn : 0 ≤ U / yh := Int.ediv_nonneg u0 (by omega)
    obtain ⟨dr1, dr2, dr3, dr4⟩ := dr
    rw [hq] at dr1 dr2 dr3 dr4 ds hqu hqn
    rw [hD] at ds
    rw [hc1, hc0] at T
    rw [hD] at T
    have dm := Int.mul_nonneg hqn (show 0 ≤ yh by omega)
    have aY := and32 Y (by omega) (by omega)
    have aW := and32 W (by omega) (by omega)
    rw [hyl] at aY
    rw [hc0] at aW
    have HT := Lib.hid T; clear T
    have HD1 := Lib.hid dr1; clear dr1
    have HU := Lib.hid hU; clear hU
    have EY := Lib.hid eY; clear eY
    have HD := Lib.hid hD; clear hD
    go_enter Try.func67, Try.ntmps67
    go_wp2_with fail
    refine C.out.mono ?_
    rintro e w' ⟨rfl, rfl⟩
    go_upto_block 0 with (fail)
    clear hY hW hyh hyl hc1 hc0 aY aW n4 ny nh
    rw [hq]
    clear hq
    generalize hR : U - q * yh = r0 at *
    have HR := Lib.hid hR; clear hR
    go_cut [15, 16] (fun s15 s16 wx => s15 = .int .u64 D ∧ (∃ r, s16 = .int .u64 r) ∧ wx = w)
    case first =>
      go_wp2_with fail
      go_loop [15, 16] (fun s15 s16 => ∃ q r : Int, s15 = .int .u64 q ∧ s16 = .int .u64 r ∧ Hid (q * yh + r = U) ∧ D ≤ q ∧ 0 ≤ r ∧ r < 4294967296 ∧ 0 ≤ q ∧ q < 18446744073709551616) (fun s15 _ => (intOf s15).toNat)
      case atStart => exact ⟨q, r0, rfl, rfl, HD1, ds, dr2, by omega, hqn, by omega⟩
      case round =>
        obtain ⟨p, r, rfl, rfl, hp1, hp2, hp3, hp4, hp5, hp6⟩ := hrel
        have pm := prod_le hp5 bl0 (Int.le_refl p) (show yl ≤ 4294967295 by omega)
        by_cases g1 : 4294967296 ≤ p
        · have k1 : D ≤ p - 1 := by rw [← HD.out]; exact dig_big (by omega) n2 bc1' g1
          have kr : Hid ((p - 1) * yh + (r + yh) = U) := by have := hp1.out; show _ = _; rw [Int.sub_mul]; omega
          clear pm
          by_cases g3 : r + yh < 4294967296
          · go_wp2_with fail
            go_round
            case rel => exact ⟨p - 1, r + yh, rfl, rfl, kr, k1, by omega, g3, by omega, by omega⟩
            case measure => (simp [intOf]; try omega)
          · have k2 : p - 1 < 4294967296 := by
              by_cases g4 : 4294967296 ≤ p - 1
              · have := dig_nobreak EY.out n2 kr.out bl1 (by omega) g4
                omega
              · omega
            have k3 : p - 1 = D := by
              have := dig_break (c := c1) (by omega) EY.out kr.out bl0 bl1 bc1 (by omega) k2 (by omega)
              rw [HD.out] at this
              omega
            have K3 := Lib.hid k3; clear k3
            go_wp2_with fail
            go_meet
            exact ⟨by rw [K3.out], ⟨_, rfl⟩, rfl⟩
        · have pm2 : p * yl ≤ 18446744065119617025 := (half_prod hp5 bl0 (by omega) (by omega)).2
          obtain ⟨pm1, pm3⟩ := pm
          by_cases g2 : 4294967296 * r + c1 < p * yl
          · have k1 : D ≤ p - 1 := by rw [← HD.out]; exact dig_gt (by omega) EY.out hp1.out (by omega)
            have kr : Hid ((p - 1) * yh + (r + yh) = U) := by have := hp1.out; show _ = _; rw [Int.sub_mul]; omega
            have kp : 1 ≤ p := by
              by_cases g5 : p = 0
              · subst g5; rw [Int.zero_mul] at g2; omega
              · omega
            by_cases g3 : r + yh < 4294967296
            · go_wp2_with fail
              go_round
              case rel => exact ⟨p - 1, r + yh, rfl, rfl, kr, k1, by omega, g3, by omega, by omega⟩
              case measure => (simp [intOf]; try omega)
            · have k3 : p - 1 = D := by
                have := dig_break (c := c1) (by omega) EY.out kr.out bl0 bl1 bc1 (by omega) (by omega) (by omega)
                rw [HD.out] at this
                omega
              have K3 := Lib.hid k3; clear k3
              go_wp2_with fail
              go_meet
              exact ⟨by rw [K3.out], ⟨_, rfl⟩, rfl⟩
          · have k3 : p = D := by
              have := dig_le (c := c1) (by omega) EY.out hp1.out (by omega)
              rw [HD.out] at this
              omega
            have K3 := Lib.hid k3; clear k3
            go_wp2_with fail
            go_meet
            exact ⟨by rw [K3.out], ⟨_, rfl⟩, rfl⟩
    case rest =>
      obtain ⟨rfl, ⟨r, rfl⟩, rfl⟩ := hcut
      clear ds hqu hqn dr2 dr3 dr4 dm HD1 HR HU
      obtain ⟨a1, a4, a2, a3⟩ := dig_next U c1 Y D (by omega) z3 HD.out
      have hD1 : D < 4294967296 := by rw [← HD.out]; exact dig_lt (by omega) n2 bc1'
      have hD0 : 0 ≤ D := by rw [← HD.out]; exact Int.ediv_nonneg (by omega) (by omega)
      have T2 := HT.out ((U * 4294967296 + c1) % Y) ((((U * 4294967296 + c1) % Y) * 4294967296 + c0) / Y) rfl rfl
      clear a4 HT
      generalize (U * 4294967296 + c1) % Y = A at *
      obtain ⟨E, hE⟩ : ∃ E, (A * 4294967296 + c0) / Y = E := ⟨_, rfl⟩
      obtain ⟨q2, hq2⟩ : ∃ q2, A / yh = q2 := ⟨_, rfl⟩
      have er := dig_rest (U := A) (yh := yh) (by omega)
      have es := dig_start (U := A) (Y := Y) (yh := yh) (yl := yl) (c := c0) (by omega) EY.out (by omega) bl0 bc0' a2
      have equ : A / yh ≤ A := Int.ediv_le_self _ a2
      have eqn : 0 ≤ A / yh := Int.ediv_nonneg a2 (by omega)
      obtain ⟨er1, er2, er3, er4⟩ := er
      rw [hq2] at er1 er2 er3 er4 es equ eqn
      rw [hE] at es T2
      have em := Int.mul_nonneg eqn (show 0 ≤ yh by omega)
      have HE1 := Lib.hid er1; clear er1
      have HE := Lib.hid hE; clear hE
      have HT2 := Lib.hid T2; clear T2
      go_upto_block 2 with (fail)
      rw [hq2]
      clear hq2 a1
      generalize hR : A - q2 * yh = r2 at *
      have HR := Lib.hid hR; clear hR
      go_cut [18, 16] (fun s18 s16 wx => s18 = .int .u64 E ∧ (∃ r, s16 = .int .u64 r) ∧ wx = wc)
      case first =>
        go_wp2_with fail
        go_loop [18, 16] (fun s18 s16 => ∃ q r : Int, s18 = .int .u64 q ∧ s16 = .int .u64 r ∧ Hid (q * yh + r = A) ∧ E ≤ q ∧ 0 ≤ r ∧ r < 4294967296 ∧ 0 ≤ q ∧ q < 18446744073709551616) (fun s18 _ => (intOf s18).toNat)
        case atStart => exact ⟨q2, r2, rfl, rfl, HE1, es, er2, by omega, eqn, by omega⟩
        case round =>
          obtain ⟨p, r, rfl, rfl, hp1, hp2, hp3, hp4, hp5, hp6⟩ := hrel
          have pm := prod_le hp5 bl0 (Int.le_refl p) (show yl ≤ 4294967295 by omega)
          by_cases g1 : 4294967296 ≤ p
          · have k1 : E ≤ p - 1 := by rw [← HE.out]; exact dig_big (by omega) a3 bc0' g1
            have kr : Hid ((p - 1) * yh + (r + yh) = A) := by have := hp1.out; show _ = _; rw [Int.sub_mul]; omega
            clear pm
            by_cases g3 : r + yh < 4294967296
            · go_wp2_with fail
              go_round
              case rel => exact ⟨p - 1, r + yh, rfl, rfl, kr, k1, by omega, g3, by omega, by omega⟩
              case measure => (simp [intOf]; try omega)
            · have k2 : p - 1 < 4294967296 := by
                by_cases g4 : 4294967296 ≤ p - 1
                · have := dig_nobreak EY.out a3 kr.out bl1 (by omega) g4
                  omega
                · omega
              have k3 : p - 1 = E := by
                have := dig_break (c := c0) (by omega) EY.out kr.out bl0 bl1 bc0 (by omega) k2 (by omega)
                rw [HE.out] at this
                omega
              have K3 := Lib.hid k3; clear k3
              go_wp2_with fail
              go_meet
              exact ⟨by rw [K3.out], ⟨_, rfl⟩, rfl⟩
          · have pm2 : p * yl ≤ 18446744065119617025 := (half_prod hp5 bl0 (by omega) (by omega)).2
            obtain ⟨pm1, pm3⟩ := pm
            by_cases g2 : 4294967296 * r + c0 < p * yl
            · have k1 : E ≤ p - 1 := by rw [← HE.out]; exact dig_gt (by omega) EY.out hp1.out (by omega)
              have kr : Hid ((p - 1) * yh + (r + yh) = A) := by have := hp1.out; show _ = _; rw [Int.sub_mul]; omega
              have kp : 1 ≤ p := by
                by_cases g5 : p = 0
                · subst g5; rw [Int.zero_mul] at g2; omega
                · omega
              by_cases g3 : r + yh < 4294967296
              · go_wp2_with fail
                go_round
                case rel => exact ⟨p - 1, r + yh, rfl, rfl, kr, k1, by omega, g3, by omega, by omega⟩
                case measure => (simp [intOf]; try omega)
              · have k3 : p - 1 = E := by
                  have := dig_break (c := c0) (by omega) EY.out kr.out bl0 bl1 bc0 (by omega) (by omega) (by omega)
                  rw [HE.out] at this
                  omega
                have K3 := Lib.hid k3; clear k3
                go_wp2_with fail
                go_meet
                exact ⟨by rw [K3.out], ⟨_, rfl⟩, rfl⟩
            · have k3 : p = E := by
                have := dig_le (c := c0) (by omega) EY.out hp1.out (by omega)
                rw [HE.out] at this
                omega
              have K3 := Lib.hid k3; clear k3
              go_wp2_with fail
              go_meet
              exact ⟨by rw [K3.out], ⟨_, rfl⟩, rfl⟩
      case rest =>
        obtain ⟨rfl, ⟨r, rfl⟩, rfl⟩ := hcut
        clear es equ eqn er2 er3 er4 em HE1 HR
        obtain ⟨f1, f4, f2, f3⟩ := dig_next A c0 Y E (by omega) z3 HE.out
        have hE1 : E < 4294967296 := by rw [← HE.out]; exact dig_lt (by omega) a3 bc0'
        have hE0 : 0 ≤ E := by rw [← HE.out]; exact Int.ediv_nonneg (by omega) (by omega)
        have F : Hid ((A * 4294967296 + c0) % Y = A * 4294967296 + c0 - E * Y) := f4
        clear f4
        generalize (A * 4294967296 + c0) % Y = B at *
        go_wp2_with fail
        go_ret2
        exact ⟨ret_two HT2.out.1 (by rw [F.out]; exact HT2.out.2), 0, rfl⟩
end Go.Proofs.Ytdimpgojamhakaa

/-
  Contracts of package fix: the quotient of two numbers, and ratios of integers.
-/
namespace Go.Proofs.Ytdimpgojamhakaa
open Go.RowKit
set_option linter.unusedVariables false
set_option linter.unusedSimpArgs false

theorem shl_split (a : Int) (h0 : 0 ≤ a) (h1 : a ≤ 9223372036854775808) : a / 4294967296 * 18446744073709551616 + IntKind.u64.wrap (a * 4294967296) = a * 4294967296 := by
  rw [wrap64u]; omega

set_option maxHeartbeats 1000000 in
theorem quotient_any (a b : Int) (w : World) (a0 : 0 ≤ a) (a1 : a ≤ 9223372036854775808) (b0 : 0 ≤ b) (b1 : b ≤ 9223372036854775808) :
    Calls Try.prog 64 #[.int .u64 a, .int .u64 b] w fun e w' => e = .returned (.int .u64 (quoF a b)) ∧ ∃ n, w' = w.drewN n := by
  by_cases c : b ≤ a / 4294967296
  · have D : Hid (9223372036854775808 = quoF a b) := by unfold quoF; exact (if_neg (by omega)).symm
    go_enter Try.func64, Try.ntmps64
    go_wp2_with fail
    go_ret
    exact ⟨ret_int D.out, 0, rfl⟩
  · have D : Hid (rnd (a * 4294967296 / b) (a * 4294967296 % b) b = quoF a b) := by unfold quoF; exact (if_pos (by omega)).symm
    have hw0 : 0 ≤ IntKind.u64.wrap (a * 4294967296) := by rw [wrap64u]; omega
    have hw1 : IntKind.u64.wrap (a * 4294967296) < 18446744073709551616 := by rw [wrap64u]; omega
    have C := div64_any (a / 4294967296) (IntKind.u64.wrap (a * 4294967296)) b w (by omega) hw0 hw1 (by omega) (by omega)
    rw [shl_split a a0 a1] at C
    have C1 := Lib.hid C; clear C
    have q0 : 0 ≤ a * 4294967296 / b := Int.ediv_nonneg (by omega) b0
    have q1 : a * 4294967296 / b < 18446744073709551616 := by
      rw [Int.ediv_lt_iff_lt_mul (by omega)]; omega
    have r0 : 0 ≤ a * 4294967296 % b := Int.emod_nonneg _ (by omega)
    have r1 : a * 4294967296 % b < b := Int.emod_lt_of_pos _ (by omega)
    generalize a * 4294967296 / b = q at *
    generalize a * 4294967296 % b = r at *
    have C2 := Lib.hid (fun w => rounded_any q r b w q0 r0 (by omega) (by omega) q1)
    clear hw0 hw1
    go_enter Try.func64, Try.ntmps64
    go_wp2_with fail
    refine C1.out.mono ?_
    rintro e w' ⟨rfl, n, rfl⟩
    go_wp2_with fail
    refine (C2.out _).mono ?_
    rintro e w' ⟨rfl, rfl⟩
    go_wp2_with fail
    go_ret
    exact ⟨ret_int D.out, n, rfl⟩

set_option maxHeartbeats 1000000 in
theorem div_any (x y : Int) (w : World) (hx1 : -9223372036854775808 ≤ x) (hx2 : x ≤ 9223372036854775807) (hy1 : -9223372036854775808 ≤ y) (hy2 : y ≤ 9223372036854775807) :
    Calls Try.prog 55 #[.int .i64 x, .int .i64 y] w fun e w' => e = .returned (.int .i64 (divF x y)) ∧ ∃ n, w' = w.drewN n := by
  by_cases c : x = 0
  · subst c
    have D : Hid (0 = divF 0 y) := rfl
    go_enter Try.func55, Try.ntmps55
    go_wp2_with fail
    go_ret
    exact ⟨ret_int D.out, 0, rfl⟩
  · have nx : (x == 0) = false := by rw [beq_eq_false_iff_ne]; exact c
    have D : Hid (sgn (decide (x < 0) != decide (y < 0)) (quoF (mag x) (mag y)) = divF x y) := divF_eq x y c
    obtain ⟨mx0, mx1⟩ := mag_bounds x hx1 hx2
    obtain ⟨my0, my1⟩ := mag_bounds y hy1 hy2
    have C1 := Lib.hid (fun w => magnitude_any x w hx1 hx2)
    have C2 := Lib.hid (fun w => magnitude_any y w hy1 hy2)
    have C3 := Lib.hid (fun w => quotient_any (mag x) (mag y) w mx0 mx1 my0 my1)
    have C4 := Lib.hid (fun w => signed_any (decide (x < 0) != decide (y < 0)) (quoF (mag x) (mag y)) w (quoF_bounds _ _ mx0).1)
    clear mx0 mx1 my0 my1 hx1 hx2 hy1 hy2 c
    go_enter Try.func55, Try.ntmps55
    go_wp2_with fail
    refine (C1.out _).mono ?_
    rintro e w' ⟨rfl, rfl⟩
    go_wp2_with fail
    refine (C2.out _).mono ?_
    rintro e w' ⟨rfl, rfl⟩
    go_wp2_with fail
    refine (C3.out _).mono ?_
    rintro e w' ⟨rfl, n, rfl⟩
    go_wp2_with fail
    refine (C4.out _).mono ?_
    rintro e w' ⟨rfl, rfl⟩
    go_wp2_with fail
    go_ret
    exact ⟨ret_int D.out, n, rfl⟩

end Go.Proofs.Ytdimpgojamhakaa
/-
  Contracts of package fix: sums and dot products of lists.
-/
namespace Go.Proofs.Ytdimpgojamhakaa
open Go.RowKit
set_option linter.unusedVariables false
set_option linter.unusedSimpArgs false

set_option maxHeartbeats 1000000 in
theorem sum_any (a : Option Addr) (len cap : Nat) (zs : List Int) (w : World) (h : IntsAt w a len zs) :
    Calls Try.prog 48 #[.slice a len cap] w fun e w' => e = .returned (.int .i64 (sumF zs)) ∧ w = w' := by
  obtain ⟨h1, h2, h3, h4⟩ := h
  go_enter Try.func48, Try.ntmps48
  go_wp2_with fail
  go_loop [3, 8] (fun t i => ∃ k : Nat, k ≤ len ∧ i = .int .i64 k ∧ t = .int .i64 (sumF (zs.take k))) (fun _ i => len - (intOf i).toNat)
  case atStart => exact ⟨0, Nat.zero_le _, rfl, rfl⟩
  case round =>
    obtain ⟨k, hk, rfl, rfl⟩ := hrel
    have sb := sumF_bounds (zs.take k)
    by_cases hlt : k < len
    · rcases h4 with h4 | ⟨b, off, rfl, hc⟩
      · omega
      · have hcell := hc k hlt
        clear hc
        have hstep := Lib.hid (sumF_step zs k (by omega))
        obtain ⟨x1, x2⟩ := h3.getD k
        generalize zs.getD k 0 = x at *
        generalize sumF (zs.take k) = t at *
        clear h1 h3
        have C := Lib.hid (add_any t x w sb.1 sb.2 x1 x2)
        clear sb
        go_wp2_with fail
        refine C.out.mono ?_
        rintro e w' ⟨rfl, rfl⟩
        go_wp2_with fail
        go_round
        case rel => exact ⟨k + 1, by omega, by go_num, by rw [hstep.out]⟩
        case measure => (simp [intOf]; try omega)
    · have e : Hid (sumF (zs.take k) = sumF zs) := by show _ = _; rw [List.take_of_length_le (by omega)]
      generalize sumF (zs.take k) = t at *
      clear h1 h3 h4 sb
      go_wp2_with fail
      go_ret
      exact ⟨ret_int e.out, rfl⟩

end Go.Proofs.Ytdimpgojamhakaa
/-
  Regions that draw their order: operations that a guard leaves out, one after another.
-/
namespace Go.Proofs.Ytdimpgojamhakaa
open Go.RowKit
set_option linter.unusedVariables false
set_option linter.unusedSimpArgs false
section
variable {P : Program} {md : Region.Mode} {ops : Array Oper} {Q : Exit → Act → World → Prop} {S : World → Prop}
/-- An operation that its guard leaves out comes up first. -/
theorem held_skip (i : Nat) {oi : Oper} {fuel : Nat} {listed : Array Bool} {a : Act} {w : World} (hi : ops.toList[i]? = some oi)
    (hs : Region.noSelect ops = true) (hf : Region.free md ops listed i = true) (hr : (Region.ready md ops listed).contains i = true)
    (hQ : ∀ c a w, Q (.panic c) (a.put oi.dst undef) w → Q (.panic c) a w) (hw : Region.wanted oi (yielded ops a.tmps) = false) (hS : S w)
    (h : wpAnyH P md ops Q S fuel (listed.setIfInBounds i true) (a.put oi.dst undef) w) : wpAnyH P md ops Q S (fuel + 1) listed a w :=
  wpAnyH_take (by rw [← Array.getElem?_toList]; exact hi) hs hf hr hQ (Or.inr ⟨hw, rfl⟩) hS h
/-- An operation that yields in every world comes up first. -/
theorem held_take (i : Nat) (v : Value) {oi : Oper} {fuel : Nat} {listed : Array Bool} {a : Act} {w : World} (hi : ops.toList[i]? = some oi)
    (hs : Region.noSelect ops = true) (hf : Region.free md ops listed i = true) (hr : (Region.ready md ops listed).contains i = true)
    (hQ : ∀ c a w, Q (.panic c) (a.put oi.dst v) w → Q (.panic c) a w) (hw : Region.wanted oi (yielded ops a.tmps) = true) (hv : ∀ w, S w → (execOp a.eval oi).run P w = .ok (.value v) w) (hS : S w)
    (h : wpAnyH P md ops Q S fuel (listed.setIfInBounds i true) (a.put oi.dst v) w) : wpAnyH P md ops Q S (fuel + 1) listed a w :=
  wpAnyH_take (by rw [← Array.getElem?_toList]; exact hi) hs hf hr hQ (Or.inl ⟨hw, hv⟩) hS h
/-- The one operation that may come up, carried out. -/
theorem held_call (i : Nat) {o : Oper} {fuel : Nat} {listed : Array Bool} {a : Act} {w : World} (hr : Region.ready md ops listed = [i]) (ho : ops.toList[i]? = some o) (hw : Region.wanted o (yielded ops a.tmps) = true)
    (h : ∀ K' : Act → World → Prop, Shut (∀ a w, S w → (S w → wpAnyH P md ops Q S fuel (listed.setIfInBounds i true) a w) → K' a w) → Oper.wp P o a w K' Q) : wpAnyH P md ops Q S (fuel + 1) listed a w :=
  wpAnyH_ready hr (by simp) (AllReadyH.cons (by rw [← Array.getElem?_toList]; exact ho) (fun K hK => by rw [if_pos hw]; exact h K hK) AllReadyH.nil)
/-- The one operation that may come up is left out by its guard (a call: 'held_skip' does not serve it). -/
theorem held_left (i : Nat) {o : Oper} {fuel : Nat} {listed : Array Bool} {a : Act} {w : World} (hr : Region.ready md ops listed = [i]) (ho : ops.toList[i]? = some o) (hw : Region.wanted o (yielded ops a.tmps) = false) (hS : S w)
    (h : wpAnyH P md ops Q S fuel (listed.setIfInBounds i true) (a.put o.dst undef) w) : wpAnyH P md ops Q S (fuel + 1) listed a w :=
  wpAnyH_ready hr (by simp) (AllReadyH.cons (by rw [← Array.getElem?_toList]; exact ho) (fun K hK => by rw [hw, if_neg (by decide)]; exact hK.out _ _ hS (fun _ => h)) AllReadyH.nil)
/-- Two operations may come up. -/
theorem held_two (i j : Nat) {o1 o2 : Oper} {fuel : Nat} {listed : Array Bool} {a : Act} {w : World} (hr : Region.ready md ops listed = [i, j]) (h1 : ops.toList[i]? = some o1) (h2 : ops.toList[j]? = some o2)
    (hw1 : Region.wanted o1 (yielded ops a.tmps) = true) (hw2 : Region.wanted o2 (yielded ops a.tmps) = true)
    (H1 : ∀ K' : Act → World → Prop, Shut (∀ a w, S w → (S w → wpAnyH P md ops Q S fuel (listed.setIfInBounds i true) a w) → K' a w) → Oper.wp P o1 a w K' Q)
    (H2 : ∀ K' : Act → World → Prop, Shut (∀ a w, S w → (S w → wpAnyH P md ops Q S fuel (listed.setIfInBounds j true) a w) → K' a w) → Oper.wp P o2 a w K' Q) : wpAnyH P md ops Q S (fuel + 1) listed a w :=
  wpAnyH_ready hr (by simp) (AllReadyH.cons (by rw [← Array.getElem?_toList]; exact h1) (fun K hK => by rw [if_pos hw1]; exact H1 K hK) (AllReadyH.cons (by rw [← Array.getElem?_toList]; exact h2) (fun K hK => by rw [if_pos hw2]; exact H2 K hK) AllReadyH.nil))
end
end Go.Proofs.Ytdimpgojamhakaa

/-
  Contracts of package pool: Shape, Best, share, pooled, outputShape.
-/
namespace Go.Proofs.Ytdimpgojamhakaa
open Go.RowKit
set_option linter.unusedVariables false
set_option linter.unusedSimpArgs false

/-- What Shape answers. -/
def PShapeR (w : World) (xs : List Int) (wd st : Int) (e : Ending) (w' : World) : Prop := (psE xs wd st = 0 → NewE w xs.length (psS xs wd st) e w') ∧ (psE xs wd st ≠ 0 → NilE w (psE xs wd st) e w')
theorem PShapeR.err {w : World} {xs : List Int} {wd st x : Int} {e : Ending} {w' : World} (h : psE xs wd st = x) (hx : x ≠ 0) (hn : NilE w x e w') : PShapeR w xs wd st e w' := ⟨fun h0 => absurd (h.symm.trans h0) hx, fun _ => h ▸ hn⟩
theorem PShapeR.ok {w : World} {xs : List Int} {wd st : Int} {e : Ending} {w' : World} (h : psE xs wd st = 0) (hn : NewE w xs.length (psS xs wd st) e w') : PShapeR w xs wd st e w' := ⟨fun _ => hn, fun h0 => absurd h h0⟩

set_option maxRecDepth 100000 in
set_option maxHeartbeats 2000000 in
theorem poolshape_any (a : Option Addr) (l c : Nat) (xs : List Int) (wd st : Int) (w : World) (h : IntsAt w a l xs) :
    Calls Try.prog 10 #[.slice a l c, .int .i64 wd, .int .i64 st] w (PShapeR w xs wd st) := by
  have C := rightM_any a l c xs w h
  cases b1 : rightS xs
  · rw [b1] at C
    have C1 := Lib.hid C
    have E := Lib.hid (psE_wrong (wd := wd) (st := st) b1)
    clear C b1 h
    go_enter Try.func10, Try.ntmps10
    go_wp2_with fail
    refine C1.out.mono ?_
    rintro e w1 ⟨rfl, hb⟩
    go_wp2_with fail
    go_ret2
    exact PShapeR.err E.out (by omega) ⟨rfl, hb⟩
  rw [b1] at C
  have C1 := Lib.hid C
  obtain ⟨p1, p2, -, -⟩ := rightS_parts b1
  have hl : xs.length = l := h.1
  obtain ⟨b, off, rfl, hc⟩ := ints_cell h (by omega)
  obtain ⟨k, rfl⟩ : ∃ k, l = k + 1 := ⟨l - 1, by omega⟩
  have hk : k ≤ 3 := by omega
  have hlast : xs.getD k 0 = lastI xs := by unfold lastI; rw [hl]; rfl
  have KX := Lib.hid (fun w1 (hb : Below w.heap.size w w1) => cell_later hb (hc k (by omega)))
  have CP := Lib.hid (fun w1 (hb : Below w.heap.size w w1) => copy_any (some ⟨b, off, none⟩) (k + 1) c xs w1 (h.kept hb) (by omega))
  have ER := psE_right (wd := wd) (st := st) b1
  have ES : psS xs wd st = xs.set k (winN (lastI xs) wd st) := by unfold psS; rw [hl]; rfl
  have EP := Lib.hid (show ∀ x e w', psE xs wd st = x → x ≠ 0 → NilE w x e w' → PShapeR w xs wd st e w' from fun x e w' => PShapeR.err)
  have EO := Lib.hid (show ∀ e w', psE xs wd st = 0 → NewE w (k + 1) (xs.set k (winN (lastI xs) wd st)) e w' → PShapeR w xs wd st e w' from fun e w' h0 hn => PShapeR.ok h0 (by rw [hl, ES]; exact hn))
  have HL := Lib.hid hl
  rw [hlast] at KX
  obtain ⟨t, ht⟩ : ∃ t, lastI xs = t := ⟨_, rfl⟩
  rw [ht] at KX ER EO
  have W1 := Lib.hid (window_any t wd st)
  clear C h hc b1 hl hlast ES ht p1 p2
  rcases winE_or t wd st with he | he
  · rw [he] at ER W1
    obtain ⟨n, hn⟩ : ∃ n, winN t wd st = n := ⟨_, rfl⟩
    rw [hn] at EO W1
    have ER' := Lib.hid ER
    clear ER hn he
    go_enter Try.func10, Try.ntmps10
    go_wp2_with fail
    refine C1.out.mono ?_
    rintro e w1 ⟨rfl, hb⟩
    have kx := KX.out w1 hb
    have CP1 := Lib.hid (CP.out w1 hb)
    have HB := Lib.hid hb
    clear hb KX CP
    go_wp2_with fail
    refine (W1.out w1).mono ?_
    rintro e w2 ⟨rfl, rfl⟩
    go_wp2_with fail
    refine CP1.out.mono ?_
    rintro e w2 ⟨A, c2, rfl, ho, hb2⟩
    obtain ⟨g, c', hv⟩ := Joins.ownsRow_form ho (by omega)
    simp only [Value.slice.injEq] at hv
    obtain ⟨rfl, -, rfl⟩ := hv
    obtain ⟨g1, g2⟩ := ho.lt g rfl
    obtain ⟨x, hx⟩ : ∃ x, w2.cell? ⟨g, k, none⟩ = some x := by
      have := HL.out
      rw [ho.cellAt k (by omega), List.getElem?_eq_getElem (by simp; omega)]
      exact ⟨_, rfl⟩
    have hf := ho.frozenAt k
    obtain ⟨ho2, hg2⟩ := ho.stored k (.int .i64 n)
    rw [← List.map_set] at ho2
    have s1 := HB.out.size
    have P := Lib.hid (EO.out (.returned (.tuple #[.slice (some ⟨g, 0, none⟩) (k + 1) c2, .int .i64 0])) (w2.setCell ⟨g, k, none⟩ (.int .i64 n)) ER'.out ⟨_, c2, rfl, Joins.ownsRow_le ho2 s1, (HB.out.trans (hb2.mono s1)).setCell (by show w.heap.size ≤ g; omega) _⟩)
    clear ho hb2 ho2 hg2 C1 EO kx HB EP s1 g1 g2
    go_wp2_with fail
    go_ret2
    exact P.out
  · rw [he] at ER W1
    obtain ⟨n, hn⟩ : ∃ n, winN t wd st = n := ⟨_, rfl⟩
    rw [hn] at EO W1
    have ER' := Lib.hid ER
    clear ER hn he
    go_enter Try.func10, Try.ntmps10
    go_wp2_with fail
    refine C1.out.mono ?_
    rintro e w1 ⟨rfl, hb⟩
    have kx := KX.out w1 hb
    have HB := Lib.hid hb
    clear hb KX CP
    go_wp2_with fail
    refine (W1.out w1).mono ?_
    rintro e w2 ⟨rfl, rfl⟩
    go_wp2_with fail
    go_ret2
    exact EP.out 11 _ _ ER'.out (by omega) ⟨rfl, HB.out⟩

/-- What Best answers. -/
def bestI (zs : List Int) (k : Nat) : Int := if k = 0 then -1 else (bestN zs 0 k : Nat)
theorem bestI_zero (zs : List Int) : bestI zs 0 = -1 := rfl
theorem bestI_pos (zs : List Int) {k : Nat} (h : 1 ≤ k) : bestI zs k = (bestN zs 0 k : Nat) := by unfold bestI; rw [if_neg (by omega)]

set_option maxRecDepth 100000 in
set_option maxHeartbeats 2000000 in
theorem pbest_any (a : Option Addr) (len cap : Nat) (zs : List Int) (w : World) (h : IntsAt w a len zs) :
    Calls Try.prog 22 #[.slice a len cap] w fun e w' => e = .returned (.int .i64 (bestI zs len)) ∧ w = w' := by
  obtain ⟨h1, h2, h3, h4⟩ := h
  go_enter Try.func22, Try.ntmps22
  go_wp2_with fail
  go_loop [3, 8] (fun t i => ∃ k : Nat, k ≤ len ∧ i = .int .i64 k ∧ t = .int .i64 (bestI zs k)) (fun _ i => len - (intOf i).toNat)
  case atStart => exact ⟨0, Nat.zero_le _, rfl, rfl⟩
  case round =>
    obtain ⟨k, hk, rfl, rfl⟩ := hrel
    by_cases hlt : k < len
    · rcases h4 with h4 | ⟨b, off, rfl, hc⟩
      · omega
      · have hcell := hc k hlt
        by_cases hk0 : k = 0
        · have E : Hid ((k : Int) = bestI zs (k + 1)) := Lib.hid (by rw [hk0, bestI_pos _ (by omega), bestN_one])
          have E0 : Hid (bestI zs k = -1) := Lib.hid (by rw [hk0]; rfl)
          rw [E0.out]
          generalize zs.getD k 0 = x at *
          clear h1 h3 hc hk0
          go_wp2_with fail
          go_round
          case rel => exact ⟨k + 1, by omega, by go_num, by rw [← E.out]⟩
          case measure => (simp [intOf]; try omega)
        · rw [bestI_pos zs (by omega)]
          have hm := bestN_range zs 0 (k := k) (by omega)
          have EY := Lib.hid (fun (hh : zs.getD (bestN zs 0 k) 0 < zs.getD k 0) => (show (k : Int) = bestI zs (k + 1) from by rw [bestI_pos _ (by omega), bestN_yes (by rw [Nat.zero_add]; exact hh), Nat.zero_add]))
          have EN := Lib.hid (fun (hh : ¬ zs.getD (bestN zs 0 k) 0 < zs.getD k 0) => (show (bestN zs 0 k : Int) = bestI zs (k + 1) from by rw [bestI_pos _ (by omega), bestN_no (by rw [Nat.zero_add]; exact hh)]))
          obtain ⟨m, hmE⟩ : ∃ m, bestN zs 0 k = m := ⟨_, rfl⟩
          rw [hmE] at hm EY EN ⊢
          have hcell2 := hc m (by omega)
          generalize zs.getD k 0 = x at *
          generalize zs.getD m 0 = y at *
          have hm2 : m < len := by omega
          have hm3 : ¬ (m : Int) < 0 := by omega
          clear h1 h3 hc hmE hm
          by_cases c : y < x
          · have E := Lib.hid (EY.out c)
            clear EY EN
            go_wp2_with fail
            go_round
            case rel => exact ⟨k + 1, by omega, by go_num, by rw [← E.out]⟩
            case measure => (simp [intOf]; try omega)
          · have E := Lib.hid (EN.out c)
            clear EY EN
            go_wp2_with fail
            go_round
            case rel => exact ⟨k + 1, by omega, by go_num, by rw [← E.out]⟩
            case measure => (simp [intOf]; try omega)
    · have e : Hid (bestI zs k = bestI zs len) := Lib.hid (by rw [show k = len by omega])
      generalize bestI zs k = t at *
      clear h1 h3 h4
      go_wp2_with fail
      go_ret
      exact ⟨ret_int e.out, rfl⟩

set_option maxRecDepth 100000 in
set_option maxHeartbeats 1000000 in
theorem pshare_any (x : Int) (wd : Nat) (w : World) (hx1 : -9223372036854775808 ≤ x) (hx2 : x ≤ 9223372036854775807) (hw : wd ≤ 1024) :
    Calls Try.prog 47 #[.int .i64 x, .int .i64 wd] w fun e w' => e = .returned (.int .i64 (divF x ((wd : Int) * 4294967296))) ∧ ∃ n, w' = w.drewN n := by
  have C := int_any wd w (by omega) (by omega)
  rw [sat_in _ (by omega) (by omega)] at C
  have C1 := Lib.hid C
  obtain ⟨q, hq⟩ : ∃ q, (wd : Int) * 4294967296 = q := ⟨_, rfl⟩
  rw [hq] at C1 ⊢
  have D := Lib.hid (div_any x q w hx1 hx2 (by omega) (by omega))
  clear C hq hx1 hx2
  go_enter Try.func47, Try.ntmps47
  go_wp2_with fail
  refine C1.out.mono ?_
  rintro e w' ⟨rfl, rfl⟩
  go_wp2_with fail
  refine D.out.mono ?_
  rintro e w' ⟨rfl, n, rfl⟩
  go_wp2_with fail
  go_ret
  exact ⟨rfl, n, rfl⟩

set_option maxRecDepth 100000 in
set_option maxHeartbeats 1000000 in
theorem pooled_any (kind : Int) (a : Option Addr) (len cap : Nat) (zs : List Int) (w : World) (h : IntsAt w a len zs) (h1 : 1 ≤ len) (h2 : len ≤ 1024) :
    Calls Try.prog 32 #[.int .i64 kind, .slice a len cap] w fun e w' => e = .returned (.int .i64 (poolZ kind zs len)) ∧ ∃ n, w' = w.drewN n := by
  by_cases c : kind = 1
  · subst c
    have C := pbest_any a len cap zs w h
    have hm := (bestN_range zs 0 h1).2
    rw [bestI_pos zs h1] at C
    have E : Hid (zs.getD (bestN zs 0 len) 0 = poolZ 1 zs len) := Lib.hid (by unfold poolZ maxN; rw [if_pos rfl])
    obtain ⟨b, off, rfl, hc⟩ := ints_cell h (by omega)
    obtain ⟨m, hmE⟩ : ∃ m, bestN zs 0 len = m := ⟨_, rfl⟩
    rw [hmE] at C E hm
    have hcell := hc m (by omega)
    have hm2 : m < len := by omega
    have C1 := Lib.hid C
    clear C h hc hmE hm
    go_enter Try.func32, Try.ntmps32
    go_wp2_with fail
    refine C1.out.mono ?_
    rintro e w' ⟨rfl, rfl⟩
    go_wp2_with fail
    go_ret
    exact ⟨ret_int E.out, 0, rfl⟩
  · have C := sum_any a len cap zs w h
    have sb := sumF_fits zs
    have E : Hid (divF (sumF zs) ((len : Int) * 4294967296) = poolZ kind zs len) := Lib.hid (by unfold poolZ; rw [if_neg c])
    obtain ⟨m, hmE⟩ : ∃ m, sumF zs = m := ⟨_, rfl⟩
    rw [hmE] at C E sb
    have C1 := Lib.hid C
    have D := Lib.hid (pshare_any m len w sb.1 sb.2 h2)
    clear C h hmE sb
    go_enter Try.func32, Try.ntmps32
    go_wp2_with fail
    refine C1.out.mono ?_
    rintro e w' ⟨rfl, rfl⟩
    go_wp2_with fail
    refine D.out.mono ?_
    rintro e w' ⟨rfl, n, rfl⟩
    go_wp2_with fail
    go_ret
    exact ⟨ret_int E.out, n, rfl⟩

/-- What outputShape answers. -/
def POutR (w : World) (kind : Int) (xs : List Int) (cl : Nat) (wd st : Int) (e : Ending) (w' : World) : Prop := (kindE kind xs cl wd st = 0 → NewE w xs.length (psS xs wd st) e w') ∧ (kindE kind xs cl wd st ≠ 0 → NilE w (kindE kind xs cl wd st) e w')
theorem POutR.err {w : World} {kind : Int} {xs : List Int} {cl : Nat} {wd st x : Int} {e : Ending} {w' : World} (h : kindE kind xs cl wd st = x) (hx : x ≠ 0) (hn : NilE w x e w') : POutR w kind xs cl wd st e w' := ⟨fun h0 => absurd (h.symm.trans h0) hx, fun _ => h ▸ hn⟩

theorem NewE.wide {w w1 w' : World} {n : Nat} {zs : List Int} {e : Ending} (h : NewE w1 n zs e w') (hb : Below w.heap.size w w1) : NewE w n zs e w' := by
  obtain ⟨A, c, rfl, ho, hb1⟩ := h
  exact ⟨A, c, rfl, Joins.ownsRow_le ho hb.size, hb.trans (hb1.mono hb.size)⟩
theorem NilE.wide {w w1 w' : World} {x : Int} {e : Ending} (h : NilE w1 x e w') (hb : Below w.heap.size w w1) : NilE w x e w' := ⟨h.1, hb.trans (h.2.mono hb.size)⟩

set_option maxRecDepth 100000 in
set_option maxHeartbeats 2000000 in
theorem pout_any (kind : Int) (x : TV) (wd st : Int) (w : World) (h : x.At w) :
    Calls Try.prog 30 #[.int .i64 kind, .agg #[.slice x.sa x.sl x.sc, .slice x.ca x.cl x.cc], .int .i64 wd, .int .i64 st] w (POutR w kind x.ss x.cl wd st) := by
  obtain ⟨wB, hwB, J1, z1, n1⟩ := grid_box w (.slice x.sa x.sl x.sc) (.slice x.ca x.cl x.cc)
  obtain ⟨j0, j1, -, -⟩ := J1.out.see
  have C := tright_any x.sa x.sl x.sc x.ss x.ca x.cl x.cc wB (h.1.kept z1.out) (by have := h.2.2.2; omega)
  have S := fun w1 (hb : Below wB.heap.size wB w1) => poolshape_any x.sa x.sl x.sc x.ss wd st w1 ((h.1.kept z1.out).kept hb)
  clear h n1
  by_cases ck : kind = 1 ∨ kind = 2
  · cases b1 : rightT x.ss x.cl
    · rw [b1] at C
      have C1 := Lib.hid C
      have E := Lib.hid (kindE_wrong (wd := wd) (st := st) ck b1)
      clear C S b1
      rcases ck with rfl | rfl
      · go_enter Try.func30, Try.ntmps30
        go_upto_region 1 with (fail)
        rw [hwB.out]
        go_wp2_with fail
        refine C1.out.mono ?_
        rintro e w1 ⟨rfl, hb⟩
        go_wp2_with fail
        go_ret2
        exact POutR.err E.out (by omega) ⟨rfl, z1.out.trans (hb.mono z1.out.size)⟩
      · go_enter Try.func30, Try.ntmps30
        go_upto_region 1 with (fail)
        rw [hwB.out]
        go_wp2_with fail
        refine C1.out.mono ?_
        rintro e w1 ⟨rfl, hb⟩
        go_wp2_with fail
        go_ret2
        exact POutR.err E.out (by omega) ⟨rfl, z1.out.trans (hb.mono z1.out.size)⟩
    · rw [b1] at C
      have C1 := Lib.hid C
      have E := Lib.hid (kindE_right (wd := wd) (st := st) ck b1)
      have S1 := Lib.hid S
      clear C S b1
      rcases ck with rfl | rfl
      · go_enter Try.func30, Try.ntmps30
        go_upto_region 1 with (fail)
        rw [hwB.out]
        go_wp2_with fail
        refine C1.out.mono ?_
        rintro e w1 ⟨rfl, hb⟩
        obtain ⟨k0, k1, -, -⟩ := (J1.out.kept hb).see
        have hb3 := Lib.hid (z1.out.trans (hb.mono z1.out.size))
        have S2 := Lib.hid (S1.out w1 hb)
        clear hb S1
        by_cases c0 : psE x.ss wd st = 0
        · have S3 := Lib.hid (S2.out.mono (fun e w' hh => hh.1 c0))
          have E2 := Lib.hid c0
          clear S2 c0
          go_wp2_with fail
          refine S3.out.mono ?_
          rintro e w2 ⟨A, c, rfl, ho, hb2⟩
          have P := Lib.hid (show NewE w x.ss.length (psS x.ss wd st) (.returned (.tuple #[.slice A x.ss.length c, .int .i64 0])) w2 from ⟨A, c, rfl, Joins.ownsRow_le ho hb3.out.size, hb3.out.trans (hb2.mono hb3.out.size)⟩)
          clear ho hb2
          go_wp2_with fail
          go_ret2
          exact ⟨fun _ => P.out, fun hn => absurd (E.out.trans E2.out) hn⟩
        · have S3 := Lib.hid (S2.out.mono (fun e w' hh => hh.2 c0))
          have E2 := Lib.hid c0
          clear S2 c0
          obtain ⟨u, hu⟩ : ∃ u, psE x.ss wd st = u := ⟨_, rfl⟩
          rw [hu] at S3 E E2
          clear hu
          go_wp2_with fail
          refine S3.out.mono ?_
          rintro e w2 ⟨rfl, hb2⟩
          go_wp2_with fail
          go_ret2
          exact POutR.err E.out E2.out ⟨rfl, hb3.out.trans (hb2.mono hb3.out.size)⟩
      · go_enter Try.func30, Try.ntmps30
        go_upto_region 1 with (fail)
        rw [hwB.out]
        go_wp2_with fail
        refine C1.out.mono ?_
        rintro e w1 ⟨rfl, hb⟩
        obtain ⟨k0, k1, -, -⟩ := (J1.out.kept hb).see
        have hb3 := Lib.hid (z1.out.trans (hb.mono z1.out.size))
        have S2 := Lib.hid (S1.out w1 hb)
        clear hb S1
        by_cases c0 : psE x.ss wd st = 0
        · have S3 := Lib.hid (S2.out.mono (fun e w' hh => hh.1 c0))
          have E2 := Lib.hid c0
          clear S2 c0
          go_wp2_with fail
          refine S3.out.mono ?_
          rintro e w2 ⟨A, c, rfl, ho, hb2⟩
          have P := Lib.hid (show NewE w x.ss.length (psS x.ss wd st) (.returned (.tuple #[.slice A x.ss.length c, .int .i64 0])) w2 from ⟨A, c, rfl, Joins.ownsRow_le ho hb3.out.size, hb3.out.trans (hb2.mono hb3.out.size)⟩)
          clear ho hb2
          go_wp2_with fail
          go_ret2
          exact ⟨fun _ => P.out, fun hn => absurd (E.out.trans E2.out) hn⟩
        · have S3 := Lib.hid (S2.out.mono (fun e w' hh => hh.2 c0))
          have E2 := Lib.hid c0
          clear S2 c0
          obtain ⟨u, hu⟩ : ∃ u, psE x.ss wd st = u := ⟨_, rfl⟩
          rw [hu] at S3 E E2
          clear hu
          go_wp2_with fail
          refine S3.out.mono ?_
          rintro e w2 ⟨rfl, hb2⟩
          go_wp2_with fail
          go_ret2
          exact POutR.err E.out E2.out ⟨rfl, hb3.out.trans (hb2.mono hb3.out.size)⟩
  · have k1 : (kind != 1) = true := bne_iff_ne.2 fun h => ck (.inl h)
    have k2 : (kind != 2) = true := bne_iff_ne.2 fun h => ck (.inr h)
    have E := Lib.hid (kindE_kind (xs := x.ss) (cl := x.cl) (wd := wd) (st := st) ck)
    clear C S ck
    go_enter Try.func30, Try.ntmps30
    go_upto_region 1 with (fail)
    rw [hwB.out]
    go_wp2_with fail
    go_ret2
    exact POutR.err E.out (by omega) ⟨rfl, z1.out⟩
end Go.Proofs.Ytdimpgojamhakaa

/-
  Numbers appended one by one to a new row of 64-bit integers.
-/
namespace Go.Proofs.Ytdimpgojamhakaa
open Go.RowKit
set_option linter.unusedVariables false
set_option linter.unusedSimpArgs false

theorem i64Info : (Try.prog.info? 2).map (fun i => (i.zero, i.size, i.bytes)) = some (some (.int .i64 0), 1, 8) := by kernel_rfl

/-- One number more behind a new row of numbers. -/
theorem snoc_int (L : List Int) (x : Int) : (L ++ [x]).map (Value.int .i64) = L.map (Value.int .i64) ++ [Value.int .i64 x] := by simp
theorem box_cell (w : World) (x : Int) (t : TypeId) : ∀ j u, [Value.int .i64 x][j]? = some u → (w.alloc (.cells #[.int .i64 x] t)).cell? ((⟨w.heap.size, 0, none⟩ : Addr).add j) = some u := by
  intro j u hj
  match j, hj with
  | 0, hj =>
    simp at hj; subst hj
    rw [Addr.add_lit, World.cell?_alloc_at _ _ _ _ rfl]; rfl

theorem take_more {cs : List Int} (d c : Nat) (h : d + c < cs.length) : (cs.drop d).take (c + 1) = (cs.drop d).take c ++ [cs.getD (d + c) 0] := by
  rw [List.take_add_one, List.getElem?_drop]
  simp [List.getD, List.getElem?_eq_getElem h]

/-- What is to be appended lies in a new block. -/
structure Snoc (w0 wr : World) (x : Int) (L0 : List Value) (t : Value) (len : Nat) : Prop where
  row : (wr.alloc (.cells #[.int .i64 x] 2)).ownsRow w0.heap.size 2 1 t len L0
  new : ∀ j u, [Value.int .i64 x][j]? = some u → (wr.alloc (.cells #[.int .i64 x] 2)).cell? ((⟨wr.heap.size, 0, none⟩ : Addr).add j) = some u
  one : ∀ u ∈ [Value.int .i64 x], u.oneCell' = true
  room : len + 1 ≤ maxLen
  bytes : (len + 1) * 8 ≤ 140737488355328
  size : w0.heap.size ≤ (wr.alloc (.cells #[.int .i64 x] 2)).heap.size
theorem snoc_of {w0 wr : World} {L0 : List Value} {t : Value} {len : Nat} (x : Int) (h : wr.ownsRow w0.heap.size 2 1 t len L0) (hb : Below w0.heap.size w0 wr) (hl : len ≤ 1000) : Snoc w0 wr x L0 t len :=
  ⟨h.alloc _, box_cell wr x _, (by intro u hu; simp at hu; subst hu; rfl), by unfold maxLen; omega, by omega, by have := hb.size; simp; omega⟩
theorem snoc_below {w0 wr w5 : World} {L0 : List Value} {t : Value} {len : Nat} {x : Int} (h : wr.ownsRow w0.heap.size 2 1 t len L0) (hb : Below w0.heap.size w0 wr) (hg : (wr.alloc (.cells #[.int .i64 x] 2)).grownBy w5 t.ownBlock) : Below w0.heap.size w0 w5 :=
  (hb.alloc hb.size (.cells #[.int .i64 x] 2)).grown hg (by have := hb.size; simp; omega) (fun q' hq' => (h.lt q' hq').1)

end Go.Proofs.Ytdimpgojamhakaa

/-
  The builtin append of integers as one operation.
-/
namespace Go.Proofs.Ytdimpgojamhakaa
open Go.RowKit
set_option linter.unusedVariables false
set_option linter.unusedSimpArgs false

/-- The builtin append of integers to a row of one's own. -/
theorem wp_append_ints {w : World} {o : Oper} {a : Act} {K : Act → World → Prop} {Q : Exit → Act → World → Prop} (s x : Operand) (t e : TypeId)
    (ho : o.op = .call { callee := .builtin .append, args := #[s, x], argTypes := #[t, t] }) (hu : Try.prog.underlying t = some (.slice e)) (hinfo : (Try.prog.info? e).map (fun i => (i.zero, i.size, i.bytes)) = some (some (.int .i64 0), 1, 8))
    (B : Nat) (v : Value) (n : Nat) (xs : List Int) (hs : a.eval s = v) (hown : w.ownsRow B e 1 v n (xs.map (Value.int .i64)))
    (av : Option Addr) (m c : Nat) (zs : List Int) (hx : a.eval x = .slice av m c) (hG : IntsAt w av m zs) (hn : av = none → m = 0 ∧ c = 0) (hb : n + m ≤ 1000000) (hbase : B ≤ w.heap.size)
    (h : ∀ v' w', w'.ownsRow B e 1 v' (n + m) ((xs ++ zs).map (Value.int .i64)) → w.grownBy w' v.ownBlock → (v'.ownBlock = v.ownBlock ∨ v'.ownBlock = some w.heap.size) → K (a.put o.dst v') w') : o.wp Try.prog a w K Q := by
  obtain ⟨i0, hi, hz0, hz1, hz2⟩ := info_parts hinfo
  cases av with
  | none =>
    obtain ⟨rfl, rfl⟩ := hn rfl
    have e1 : zs = [] := List.length_eq_zero_iff.1 hG.1
    subst e1
    have hrun := run_append_owned_none (P := Try.prog) (w := w) B t o.type e i0 1 hu hi v n (xs.map (Value.int .i64)) hown
    unfold Oper.wp
    simp [execOp, ho, resolve, invoke, builtin, hs, hx, hrun, Result.andThen]
    exact h v w (by rw [List.append_nil]; exact hown) ⟨rfl, rfl, rfl, Nat.le_refl _, fun _ _ _ => rfl⟩ (.inl rfl)
  | some ad =>
    obtain ⟨v', w', hr, h2, h3, -, h5⟩ := run_append_own_at (P := Try.prog) w B t o.type e i0 (.int .i64 0) 1 8 hu hi hz0 hz1 hz2 rfl (by decide) v n (xs.map (Value.int .i64)) hown ad m c (zs.map (Value.int .i64)) (by rw [List.length_map, hG.1, Nat.mul_one]) (by
      intro j u hj
      rw [List.getElem?_map] at hj
      obtain ⟨q, hq, rfl⟩ := Option.map_eq_some_iff.1 hj
      have hjl : j < zs.length := (List.getElem?_eq_some_iff.1 hq).1
      rcases hG.2.2.2 with h4 | ⟨b, off, ha, hc⟩
      · have := hG.1; omega
      · cases ha
        rw [Go.WideShapes.add_plain, hc j (by rw [← hG.1]; exact hjl)]
        simp [List.getD, hq]) (by intro u hu; obtain ⟨q, _, rfl⟩ := List.mem_map.1 hu; rfl) (by unfold maxLen; omega) (by omega) hbase
    unfold Oper.wp execOp
    simp only [ho, resolve, invoke, builtin, Sem.run_bind, Sem.run_pure, Result.andThen_ok, List.map_toArray, List.map_cons, List.map_nil, hs, hx, hr]
    exact h v' w' (by rw [List.map_append]; exact h2) h3 h5

end Go.Proofs.Ytdimpgojamhakaa

/-
  Contracts of package tensor: place, Get, With, Of.
-/
namespace Go.Proofs.Ytdimpgojamhakaa
open Go.RowKit
set_option linter.unusedVariables false
set_option linter.unusedSimpArgs false

def tplaceN (ss : List Int) (n : Nat) (l : List Int) : Int := if rightT ss n = true then placeN ss l else 0
def tplaceE (ss : List Int) (n : Nat) (l : List Int) : Int := if rightT ss n = true then placeE ss l else 20
theorem tplace_no {ss : List Int} {n : Nat} {l : List Int} (h : rightT ss n = false) : 0 = tplaceN ss n l ∧ 20 = tplaceE ss n l := by simp [tplaceN, tplaceE, h]
theorem tplace_yes {ss : List Int} {n : Nat} {l : List Int} (h : rightT ss n = true) : placeN ss l = tplaceN ss n l ∧ placeE ss l = tplaceE ss n l := by simp [tplaceN, tplaceE, h]

/-- Where there is such a place it is one of the cells. -/
theorem tplace_cell {ss : List Int} {n : Nat} {l : List Int} (h : tplaceE ss n l = 0) : ∃ k : Nat, k < n ∧ tplaceN ss n l = k := by
  unfold tplaceE at h
  by_cases hr : rightT ss n = true
  · rw [if_pos hr] at h
    obtain ⟨h1, h2⟩ := rightT_parts hr
    unfold placeE at h
    rw [if_pos h1] at h
    by_cases ha : atOk ss l = true
    · obtain ⟨p1, p2⟩ := numP_lt h1 ha
      refine ⟨(numP (ss.zip l)).toNat, by omega, ?_⟩
      simp only [tplaceN, placeN, hr, h1, ha, and_self, if_true]
      omega
    · rw [if_neg ha] at h; omega
  · rw [if_neg hr] at h; omega
theorem tplace_none {ss : List Int} {n : Nat} {l : List Int} (h : tplaceE ss n l ≠ 0) : tplaceN ss n l = 0 := by
  unfold tplaceE at h
  unfold tplaceN
  by_cases hr : rightT ss n = true
  · rw [if_pos hr] at h ⊢
    obtain ⟨h1, h2⟩ := rightT_parts hr
    unfold placeE at h
    unfold placeN
    rw [if_pos h1] at h
    by_cases ha : atOk ss l = true
    · rw [if_pos ha] at h; exact absurd rfl h
    · rw [if_neg (fun hh => ha hh.2)]
  · rw [if_neg hr]

/-- No tensor and this error. -/
def NilT (w : World) (x : Int) (e : Ending) (w' : World) : Prop := e = .returned (.tuple #[.agg #[.slice none 0 0, .slice none 0 0], .int .i64 x]) ∧ Below w.heap.size w w'
/-- A new tensor and no error. -/
def OkT (w : World) (sl : Nat) (ss : List Int) (cl : Nat) (cs : List Int) (e : Ending) (w' : World) : Prop := ∃ v, e = .returned (.tuple #[v, .int .i64 0]) ∧ NewT w sl ss cl cs v w'

end Go.Proofs.Ytdimpgojamhakaa
/-
  Contracts of package tensor: With, Of.
-/
namespace Go.Proofs.Ytdimpgojamhakaa
open Go.RowKit
set_option linter.unusedVariables false
set_option linter.unusedSimpArgs false

theorem row_apart {w : World} {B : Nat} {e : TypeId} {k : Nat} {v : Value} {n : Nat} {xs : List Value} {p : Addr} {u : Value} (h : w.ownsRow B e k v n xs) (hp : ∀ q, v.ownBlock = some q → q ≠ p.block) : (w.setCell p u).ownsRow B e k v n xs := by
  rcases h.2 with h2 | ⟨g, cap, cur, hv, hbg, hg, rest⟩
  · exact ⟨h.1, .inl h2⟩
  · exact ⟨h.1, .inr ⟨g, cap, cur, hv, hbg, (Below.heap_setCell w p u g (hp g (by rw [hv]; rfl))).trans hg, rest⟩⟩

set_option maxHeartbeats 2000000 in
theorem of_no (sa : Option Addr) (sl sc : Nat) (ss : List Int) (ca : Option Addr) (cl cc : Nat) (w : World) (h : IntsAt w sa sl ss) (hl : cl ≤ 9223372036854775807) (hr : rightT ss cl = false) :
    Calls Try.prog 24 #[.slice sa sl sc, .slice ca cl cc] w (NilT w 20) := by
  obtain ⟨wA, hwA, J1, z1, n1⟩ := grid_box w (.slice none 0 0) (.slice none 0 0)
  obtain ⟨wB, hwB, J2, z2, n2⟩ := grid_box wA (.slice sa sl sc) (.slice ca cl cc)
  rw [n1.out] at J2
  have z := Lib.hid (z1.out.trans (z2.out.mono z1.out.size))
  have J := Lib.hid (J1.out.kept z2.out)
  have C := tright_any sa sl sc ss ca cl cc wB (h.kept z.out) hl
  rw [hr] at C
  have C1 := Lib.hid C
  clear h J1 C hr
  obtain ⟨j0, j1, -, -⟩ := J2.out.see
  go_enter Try.func24, Try.ntmps24
  go_upto_region 2 with (fail)
  rw [hwA.out, hwB.out]
  go_wp2_with fail
  refine C1.out.mono ?_
  rintro e w1 ⟨rfl, hb1⟩
  obtain ⟨e0, e1, f0, f1⟩ := (J.out.kept hb1).see
  obtain ⟨h0, h1, -, -⟩ := ((J.out.kept hb1).set (.slice none 0 0) (.slice none 0 0)).see
  have Z : Below w.heap.size w ((w1.setCell ⟨w.heap.size, 0, none⟩ (.slice none 0 0)).setCell ⟨w.heap.size, 1, none⟩ (.slice none 0 0)) :=
    ((z.out.trans (hb1.mono z.out.size)).setCell (Nat.le_refl _) _).setCell (Nat.le_refl _) _
  go_wp2_with fail
  refine bodyPost_ret (v := .tuple #[.agg #[.slice none 0 0, .slice none 0 0], .int .i64 20]) ?_ rfl ⟨rfl, Z⟩
  simp [results, Try.results24, go_sem, h0, h1]

set_option maxHeartbeats 2000000 in
theorem of_ok (sa : Option Addr) (sl sc : Nat) (ss : List Int) (ca : Option Addr) (cl cc : Nat) (cs : List Int) (w : World) (h : IntsAt w sa sl ss) (hs : sl ≤ 1000) (hc : IntsAt w ca cl cs) (hl : cl ≤ 1000) (hr : rightT ss cl = true) :
    Calls Try.prog 24 #[.slice sa sl sc, .slice ca cl cc] w (OkT w sl ss cl cs) := by
  obtain ⟨wA, hwA, J1, z1, n1⟩ := grid_box w (.slice none 0 0) (.slice none 0 0)
  obtain ⟨wB, hwB, J2, z2, n2⟩ := grid_box wA (.slice sa sl sc) (.slice ca cl cc)
  rw [n1.out] at J2
  have z := Lib.hid (z1.out.trans (z2.out.mono z1.out.size))
  have J := Lib.hid (J1.out.kept z2.out)
  have C := tright_any sa sl sc ss ca cl cc wB (h.kept z.out) (by omega)
  have D := Lib.hid (fun w1 (hb : Below wB.heap.size wB w1) => tcopy_any sa sl sc ss ca cl cc cs w1 ((h.kept z.out).kept hb) hs ((hc.kept z.out).kept hb) hl)
  rw [hr] at C
  have C1 := Lib.hid C
  clear h hc J1 C hr
  obtain ⟨j0, j1, -, -⟩ := J2.out.see
  go_enter Try.func24, Try.ntmps24
  go_upto_region 2 with (fail)
  rw [hwA.out, hwB.out]
  go_wp2_with fail
  refine C1.out.mono ?_
  rintro e w1 ⟨rfl, hb1⟩
  obtain ⟨k0, k1, -, -⟩ := (J2.out.kept hb1).see
  go_wp2_with fail
  refine (D.out w1 hb1).mono ?_
  rintro e w2 ⟨v', rfl, A, c, A', c', rfl, ho1, ho2, hne, hb2⟩
  have hb12 := hb1.trans (hb2.mono hb1.size)
  obtain ⟨e0, e1, f0, f1⟩ := (J.out.kept hb12).see
  obtain ⟨h0, h1, -, -⟩ := ((J.out.kept hb12).set (.slice A sl c) (.slice A' cl c')).see
  have hw1 : w.heap.size < w1.heap.size := by have := n1.out; have := n2.out; have := hb1.size; omega
  have P : NewT w sl ss cl cs (.agg #[.slice A sl c, .slice A' cl c']) ((w2.setCell ⟨w.heap.size, 0, none⟩ (.slice A sl c)).setCell ⟨w.heap.size, 1, none⟩ (.slice A' cl c')) :=
    ⟨A, c, A', c', rfl, Joins.ownsRow_le (row_far (row_far ho1 hw1) hw1) (Nat.le_of_lt hw1), Joins.ownsRow_le (row_far (row_far ho2 hw1) hw1) (Nat.le_of_lt hw1), hne,
      ((z.out.trans (hb12.mono z.out.size)).setCell (Nat.le_refl _) _).setCell (Nat.le_refl _) _⟩
  have P' := Lib.hid P
  clear P ho1 ho2 hne hb12 k0 k1 hw1
  go_wp2_with fail
  refine bodyPost_ret (v := .tuple #[.agg #[.slice A sl c, .slice A' cl c'], .int .i64 0]) ?_ rfl ⟨_, rfl, P'.out⟩
  simp [results, Try.results24, go_sem, h0, h1]
end Go.Proofs.Ytdimpgojamhakaa

/-
  Contracts of package tensor: Equal (its deferred closure finds no panic), Make.
-/
namespace Go.Proofs.Ytdimpgojamhakaa
open Go.RowKit
set_option linter.unusedVariables false
set_option linter.unusedSimpArgs false

theorem catch_idle (p : Addr) (w : World) :
    CallsD Try.prog 40 #[.pointer (some p)] .returning w fun e u' w' => e = .returned (.tuple #[]) ∧ u' = .returning ∧ w' = w := by
  refine callsD_of_wpS Try.func40 rfl fun c₀ cs hu => ?_
  apply wpS_seq
  apply wpS_region
  simp [wpOpsS, go_sem, recoverD, hu, Try.ntmps40, Exit.thenS]
  refine wpS_cond (t := false) (by simp [Act.eval, Array.replicate]) ?_
  simp only [Bool.false_eq_true, if_false]
  refine wpS_of_wp (wp_skip ?_)
  cases c₀
  simp_all [bodyPostS, results, Try.results40]

/-- Both tensors have the same shape and the same cells. -/
def sameT (s1 c1 s2 c2 : List Int) : Bool := sameL s1 s2 && sameL c1 c2

theorem bool_box (w : World) (x : Bool) : ∃ wB, Hid (w.alloc (.cells #[.bool x] 4) = wB) ∧ Hid (wB.heap[w.heap.size]? = some (.cells #[.bool x] 4 (0, 0))) ∧ Hid (Below w.heap.size w wB) ∧ Hid (wB.heap.size = w.heap.size + 1) :=
  ⟨_, Lib.hid rfl, Lib.hid (World.alloc_heap_new w _), Lib.hid ((Below.refl _ _).alloc (Nat.le_refl _) _), Lib.hid (by simp)⟩

set_option maxHeartbeats 2000000 in
theorem tequal_any (sa : Option Addr) (sl sc : Nat) (ss : List Int) (ca : Option Addr) (cl cc : Nat) (cs : List Int) (sa2 : Option Addr) (sl2 sc2 : Nat) (ss2 : List Int) (ca2 : Option Addr) (cl2 cc2 : Nat) (cs2 : List Int) (w : World)
    (h : IntsAt w sa sl ss) (hc : IntsAt w ca cl cs) (h2 : IntsAt w sa2 sl2 ss2) (hc2 : IntsAt w ca2 cl2 cs2) :
    Calls Try.prog 23 #[.agg #[.slice sa sl sc, .slice ca cl cc], .agg #[.slice sa2 sl2 sc2, .slice ca2 cl2 cc2]] w fun e w' => e = .returned (.bool (sameT ss cs ss2 cs2)) ∧ Below w.heap.size w w' := by
  have hmf : ∀ (fn : Fn) (first cap : Array Value) (w : World), (Instr.makeFunc fn first cap).run Try.prog w = .ok (.func fn first cap) w := fun _ _ _ _ => rfl
  obtain ⟨wA, hwA, J1, z1, n1⟩ := grid_box w (.slice sa sl sc) (.slice ca cl cc)
  obtain ⟨wB, hwB, J2, z2, n2⟩ := grid_box wA (.slice sa2 sl2 sc2) (.slice ca2 cl2 cc2)
  obtain ⟨wC, hwC, J3, z3, n3⟩ := bool_box wB false
  rw [n1.out] at J2
  rw [n2.out, n1.out] at J3
  have z12 := z1.out.trans (z2.out.mono z1.out.size)
  have z := Lib.hid (z12.trans (z3.out.mono z12.size))
  have J1' := Lib.hid ((J1.out.kept z2.out).kept z3.out)
  have J2' := Lib.hid (J2.out.kept z3.out)
  have F := equal_any sa sl sc ss sa2 sl2 sc2 ss2 wC (h.kept z.out) (h2.kept z.out)
  have G := Lib.hid (fun n => sliceEqualF_any ca cl cc cs ca2 cl2 cc2 cs2 (wC.drewN n) ((hc.kept z.out).kept (below_drewN' (Below.refl _ _) n)) ((hc2.kept z.out).kept (below_drewN' (Below.refl _ _) n)))
  clear h hc h2 hc2 z12 J1 J2
  have b0 : wC.cell? ⟨w.heap.size + 1 + 1, 0, none⟩ = some (.bool false) := by rw [Joins.cell_of_block J3.out]; rfl
  have b1 : wC.frozen? ⟨w.heap.size + 1 + 1, 0, none⟩ = false := Joins.unfrozen_of_block J3.out 0
  have L : Hid (∀ (n : Nat) (x : Bool), ((wC.drewN n).setCell ⟨w.heap.size + 1 + 1, 0, none⟩ (.bool x)).cell? ⟨w.heap.size + 1 + 1, 0, none⟩ = some (.bool x) ∧ Below w.heap.size w ((wC.drewN n).setCell ⟨w.heap.size + 1 + 1, 0, none⟩ (.bool x))) := Lib.hid (fun n x => by
    refine ⟨?_, (below_drewN' z.out n).setCell (by show w.heap.size ≤ w.heap.size + 1 + 1; omega) _⟩
    have h1 := Joins.block_setCell (w := wC.drewN n) (i := 0) J3.out (.bool x)
    rw [Joins.cell_of_block h1]; rfl)
  obtain ⟨i0, i1, -, -⟩ := J1'.out.see
  obtain ⟨j0, j1, -, -⟩ := J2'.out.see
  cases b : sameL ss ss2
  · rw [b] at F
    have F1 := Lib.hid F
    have E : Hid (sameT ss cs ss2 cs2 = false) := Lib.hid (by simp [sameT, b])
    rw [E.out]
    clear F b G E
    go_enter_defers Try.func23, Try.ntmps23
    go_upto_region 2 with (fail)
    rw [hwA.out, hwB.out, hwC.out]
    go_wp2_with fail
    refine F1.out.mono ?_
    rintro e w1 ⟨rfl, n, rfl⟩
    go_wp2_with fail
    obtain ⟨l0, l1⟩ := L.out n false
    have l1' := Lib.hid l1
    clear l1
    obtain ⟨w4, hw4⟩ : ∃ w4, (wC.drewN n).setCell ⟨w.heap.size + 1 + 1, 0, none⟩ (.bool false) = w4 := ⟨_, rfl⟩
    rw [hw4] at l0 l1' ⊢
    refine leaves_cons (f := 40) (args := #[.pointer (some ⟨w.heap.size + 1 + 1, 0, none⟩)]) (by simp) (by simp [go_sem]) ?_
    refine (catch_idle ⟨w.heap.size + 1 + 1, 0, none⟩ _).mono ?_
    rintro e u' w'' ⟨rfl, rfl, rfl⟩
    simp [Leaves, settle, results, Try.results23, go_sem, l0]
    exact l1'.out
  · rw [b] at F
    have F1 := Lib.hid F
    have E : Hid (sameT ss cs ss2 cs2 = sameL cs cs2) := Lib.hid (by simp [sameT, b])
    rw [E.out]
    clear F b E
    obtain ⟨x, hx⟩ : ∃ x, sameL cs cs2 = x := ⟨_, rfl⟩
    rw [hx] at G ⊢
    clear hx
    go_enter_defers Try.func23, Try.ntmps23
    go_upto_region 2 with (fail)
    rw [hwA.out, hwB.out, hwC.out]
    go_wp2_with fail
    refine F1.out.mono ?_
    rintro e w1 ⟨rfl, n, rfl⟩
    go_wp2_with fail
    refine (G.out n).mono ?_
    rintro e w1 ⟨rfl, m, rfl⟩
    go_wp2_with fail
    obtain ⟨l0, l1⟩ := L.out (n + m) x
    have l1' := Lib.hid l1
    clear l1
    obtain ⟨w4, hw4⟩ : ∃ w4, (wC.drewN (n + m)).setCell ⟨w.heap.size + 1 + 1, 0, none⟩ (.bool x) = w4 := ⟨_, rfl⟩
    rw [hw4] at l0 l1' ⊢
    refine leaves_cons (f := 40) (args := #[.pointer (some ⟨w.heap.size + 1 + 1, 0, none⟩)]) (by simp) (by simp [go_sem]) ?_
    refine (catch_idle ⟨w.heap.size + 1 + 1, 0, none⟩ _).mono ?_
    rintro e u' w'' ⟨rfl, rfl, rfl⟩
    simp [Leaves, settle, results, Try.results23, go_sem, l0]
    exact l1'.out

theorem f_made (t : TypeId) (ht : Try.prog.underlying t = some (.slice 49)) (len : Nat) (hl : len ≤ 65536) : ∀ w, (Instr.makeSlice t (.int .i64 len) (.int .i64 len)).run Try.prog w = .ok (.slice (some ⟨w.heap.size, 0, none⟩) len len) (w.alloc (.cells (madeCells #[.int .i64 0] len) 49)) := by
  intro w
  obtain ⟨i0, hi, hz0, hz1, hz2⟩ := info_parts fInfo
  have := run_make (P := Try.prog) w t 49 i0 _ ht hi hz0 .i64 .i64 len len (by omega) (by omega) (by rw [hz2]; omega) (by omega)
  rw [this, hz1]
  simp [Value.cells]

set_option maxHeartbeats 1000000 in
theorem make_no (sa : Option Addr) (sl sc : Nat) (ss : List Int) (x : Int) (w : World) (h : IntsAt w sa sl ss) (hr : rightS ss = false) :
    Calls Try.prog 37 #[.slice sa sl sc, .int .i64 x] w (NilT w 20) := by
  obtain ⟨wA, hwA, J1, z1, n1⟩ := grid_box w (.slice none 0 0) (.slice none 0 0)
  have C := size_any sa sl sc ss wA (h.kept z1.out)
  rw [sizeE_no hr, sizeN_no hr] at C
  have C1 := Lib.hid C
  clear C h hr
  go_enter Try.func37, Try.ntmps37
  go_upto_region 1 with (fail)
  rw [hwA.out]
  go_wp2_with fail
  refine C1.out.mono ?_
  rintro e w1 ⟨rfl, hb1⟩
  obtain ⟨e0, e1, f0, f1⟩ := (J1.out.kept hb1).see
  obtain ⟨h0, h1, -, -⟩ := ((J1.out.kept hb1).set (.slice none 0 0) (.slice none 0 0)).see
  have Z : Below w.heap.size w ((w1.setCell ⟨w.heap.size, 0, none⟩ (.slice none 0 0)).setCell ⟨w.heap.size, 1, none⟩ (.slice none 0 0)) :=
    ((z1.out.trans (hb1.mono z1.out.size)).setCell (Nat.le_refl _) _).setCell (Nat.le_refl _) _
  go_wp2_with fail
  refine bodyPost_ret (v := .tuple #[.agg #[.slice none 0 0, .slice none 0 0], .int .i64 20]) ?_ rfl ⟨rfl, Z⟩
  simp [results, Try.results37, go_sem, h0, h1]

/-- A row of n numbers, of which the first k are x, the rest 0. -/
def fillR (n k : Nat) (x : Int) : List Int := List.replicate k x ++ List.replicate (n - k) 0
theorem fillR_none (n : Nat) (x : Int) : fillR n 0 x = List.replicate n 0 := by simp [fillR]
theorem fillR_all (n : Nat) (x : Int) : fillR n n x = List.replicate n x := by simp [fillR]
theorem fillR_length {n k : Nat} (x : Int) (h : k ≤ n) : (fillR n k x).length = n := by simp [fillR]; omega
theorem fillR_set {n k : Nat} (x : Int) (h : k < n) : (fillR n k x).set k x = fillR n (k + 1) x := by
  unfold fillR
  rw [List.set_append_right _ _ (by simp), List.length_replicate, Nat.sub_self, show n - k = (n - (k + 1)) + 1 by omega, List.replicate_succ, List.set_cons_zero, List.replicate_succ']
  simp

set_option maxHeartbeats 2000000 in
theorem make_ok (sa : Option Addr) (sl sc : Nat) (ss : List Int) (x : Int) (w : World) (h : IntsAt w sa sl ss) (hr : rightS ss = true) (N : Nat) (hN : prodI ss = N) :
    Calls Try.prog 37 #[.slice sa sl sc, .int .i64 x] w (OkT w sl ss N (List.replicate N x)) := by
  obtain ⟨wA, hwA, J1, z1, n1⟩ := grid_box w (.slice none 0 0) (.slice none 0 0)
  have C := size_any sa sl sc ss wA (h.kept z1.out)
  rw [sizeE_yes hr, sizeN_yes hr, hN] at C
  have C1 := Lib.hid C
  have hl4 : sl ≤ 4 := by have := (rightS_parts hr).2.1; have := h.1; omega
  have hN6 : N ≤ 65536 := by have := (rightS_parts hr).2.2.2; omega
  have D := Lib.hid (fun w1 (hb : Below wA.heap.size wA w1) => copy_any sa sl sc ss w1 ((h.kept z1.out).kept hb) (by omega))
  have hmk := f_made 32 Try.underlying32 N hN6
  clear C h hr hN
  go_enter Try.func37, Try.ntmps37
  go_upto_region 1 with (fail)
  rw [hwA.out]
  go_wp2_with fail
  refine C1.out.mono ?_
  rintro e w1 ⟨rfl, hb1⟩
  go_upto_region 5 with (fail)
  obtain ⟨w2, hw2⟩ : ∃ w2, w1.alloc (.cells (madeCells #[.int .i64 0] N) 49) = w2 := ⟨_, rfl⟩
  have ho : Hid (w2.ownsRow w1.heap.size 49 1 (.slice (some ⟨w1.heap.size, 0, none⟩) N N) N ((fillR N 0 x).map (Value.int .i64))) := by
    have := World.ownsRow_lit w1 (base := w1.heap.size) (e := 49) (size := 1) (madeCells #[.int .i64 0] N) N (Nat.le_refl _) (by unfold maxLen; omega) (by rw [size_madeCells]; omega)
    rw [toList_madeCells_one, hw2] at this
    rw [fillR_none]
    refine Lib.hid ?_
    simpa using this
  have zb : Below w1.heap.size w1 w2 := by rw [← hw2]; exact (Below.refl _ _).alloc (Nat.le_refl _) _
  have hb2 := Lib.hid zb
  rw [hw2]
  clear hw2 zb hmk C1
  go_wp2_with fail
  go_loopw [23] (fun i wr => ∃ k : Nat, k ≤ N ∧ i = .int .i64 k ∧ Hid (wr.ownsRow w1.heap.size 49 1 (.slice (some ⟨w1.heap.size, 0, none⟩) N N) N ((fillR N k x).map (Value.int .i64))) ∧ Hid (Below w1.heap.size w1 wr)) (fun i _ => N - (intOf i).toNat)
  case atStart => exact ⟨0, Nat.zero_le _, rfl, ho, hb2⟩
  case round =>
    obtain ⟨k, hk, rfl, hrow, hbr⟩ := hrel
    by_cases hlt : k < N
    · obtain ⟨y, hy⟩ : ∃ y, wr.cell? ⟨w1.heap.size, k, none⟩ = some y := by
        have e : wr.cell? ⟨w1.heap.size, k, none⟩ = ((fillR N k x).map (Value.int .i64))[k]? := hrow.out.cellAt k (by omega)
        rw [List.getElem?_eq_getElem (by rw [List.length_map, fillR_length x hk]; exact hlt)] at e
        exact ⟨_, e⟩
      have hf := hrow.out.frozenAt k
      obtain ⟨ho4, hg4⟩ := hrow.out.stored k (.int .i64 x)
      rw [← List.map_set, fillR_set x hlt] at ho4
      have ho4' := Lib.hid ho4
      have hb4 := Lib.hid (hbr.out.setCell (p := ⟨w1.heap.size, k, none⟩) (Nat.le_refl _) (.int .i64 x))
      clear ho4 hg4
      go_wp2_with fail
      go_roundw
      case rel => exact ⟨k + 1, by omega, by go_num, ho4', hb4⟩
      case measure => (simp [intOf]; try omega)
    · obtain rfl : k = N := by omega
      rw [fillR_all] at hrow
      have hb3 := Lib.hid (hb1.trans (hbr.out.mono hb1.size))
      go_wp2_with fail
      refine (D.out wr hb3.out).mono ?_
      rintro e w4 ⟨A, c, rfl, ho5, hb5⟩
      have hb6 := hb3.out.trans (hb5.mono hb3.out.size)
      have J2 := J1.out.kept hb6
      obtain ⟨e0, e1, f0, f1⟩ := J2.see
      obtain ⟨h0, h1, -, -⟩ := (J2.set (.slice A sl c) (.slice (some ⟨w1.heap.size, 0, none⟩) k k)).see
      have hw1 : w.heap.size < w1.heap.size := by have := n1.out; have := hb1.size; omega
      have hw4 : w1.heap.size < wr.heap.size := by
        by_cases h0 : 0 < k
        · exact (hrow.out.lt w1.heap.size rfl).2
        · exact (hrow.out.lt w1.heap.size rfl).2
      have P : NewT w sl ss k (List.replicate k x) (.agg #[.slice A sl c, .slice (some ⟨w1.heap.size, 0, none⟩) k k]) ((w4.setCell ⟨w.heap.size, 0, none⟩ (.slice A sl c)).setCell ⟨w.heap.size, 1, none⟩ (.slice (some ⟨w1.heap.size, 0, none⟩) k k)) := by
        refine ⟨A, c, _, k, rfl, Joins.ownsRow_le (row_far (row_far ho5 ?_) ?_) ?_, Joins.ownsRow_le (row_far (row_far (row_kept hrow.out hb5) hw1) hw1) (Nat.le_of_lt hw1), ?_, ?_⟩
        · exact Nat.lt_trans hw1 hw4
        · exact Nat.lt_trans hw1 hw4
        · exact Nat.le_of_lt (Nat.lt_trans hw1 hw4)
        · rintro p q rfl hq
          cases hq
          have := (ho5.lt p.block rfl).1
          show p.block ≠ w1.heap.size
          omega
        · exact ((z1.out.trans (hb6.mono z1.out.size)).setCell (Nat.le_refl _) _).setCell (Nat.le_refl _) _
      have P' := Lib.hid P
      clear P ho5 hb5 hb6 J2 hw1 hw4
      go_wp2_with fail
      refine bodyPost_ret (v := .tuple #[.agg #[.slice A sl c, .slice (some ⟨w1.heap.size, 0, none⟩) k k], .int .i64 0]) ?_ rfl ⟨_, rfl, P'.out⟩
      simp [results, Try.results37, go_sem, h0, h1]
end Go.Proofs.Ytdimpgojamhakaa

/-
  Worlds that differ in one block alone; rows of which the first places are changed.
-/
namespace Go.Proofs.Ytdimpgojamhakaa
open Go.RowKit
set_option linter.unusedVariables false
set_option linter.unusedSimpArgs false

/-- Block g alone may have changed. -/
structure Only (g : Nat) (w w' : World) : Prop where
  os : w'.os = w.os
  tape : w'.tape = w.tape
  output : w'.output = w.output
  size : w'.heap.size = w.heap.size
  block : ∀ k, k ≠ g → w'.heap[k]? = w.heap[k]?
theorem Only.refl (g : Nat) (w : World) : Only g w w := ⟨rfl, rfl, rfl, rfl, fun _ _ => rfl⟩
theorem Only.setCell {g : Nat} {w w' : World} (h : Only g w w') (j : Nat) (v : Value) : Only g w (w'.setCell ⟨g, j, none⟩ v) := by
  have hb : Below 0 w' (w'.setCell ⟨g, j, none⟩ v) := (Below.refl 0 w').setCell (Nat.zero_le _) v
  refine ⟨hb.os.trans h.os, hb.tape.trans h.tape, hb.output.trans h.output, ?_, fun k hk => (Below.heap_setCell w' ⟨g, j, none⟩ v k hk).trans (h.block k hk)⟩
  rw [← h.size]; simp
theorem Only.drew {g : Nat} {w w' : World} (h : Only g w w') : Only g w w'.drew := ⟨h.os, h.tape, h.output, h.size, h.block⟩
theorem Only.drewN {g : Nat} {w w' : World} (h : Only g w w') (n : Nat) : Only g w (w'.drewN n) := ⟨h.os, h.tape, h.output, h.size, h.block⟩
theorem Only.below {g B : Nat} {w0 w w' : World} (h : Only g w w') (hb : Below B w0 w) (hg : B ≤ g) : Below B w0 w' :=
  ⟨h.os.trans hb.os, h.tape.trans hb.tape, h.output.trans hb.output, by rw [h.size]; exact hb.size, fun k hk => (h.block k (by omega)).trans (hb.block k hk)⟩
theorem Only.gat {g B : Nat} {w w' : World} {s c : Value} (h : Only g w w') (hG : GAt w B s c) (hB : B ≠ g) : GAt w' B s c := (h.block B hB).trans hG
theorem Only.row {g B : Nat} {w w' : World} {e : TypeId} {k : Nat} {v : Value} {n : Nat} {xs : List Value} (hO : Only g w w') (h : w.ownsRow B e k v n xs) (hg : ∀ q, v.ownBlock = some q → q ≠ g) : w'.ownsRow B e k v n xs := by
  rcases h.2 with h2 | ⟨g', cap, cur, hv, hbg, hg', rest⟩
  · exact ⟨h.1, .inl h2⟩
  · exact ⟨h.1, .inr ⟨g', cap, cur, hv, hbg, (hO.block g' (hg g' (by rw [hv]; rfl))).trans hg', rest⟩⟩
theorem Only.ints {g : Nat} {w w' : World} {a : Option Addr} {n : Nat} {zs : List Int} (hO : Only g w w') (h : IntsAt w a n zs) (hg : ∀ q, a = some q → q.block ≠ g) : IntsAt w' a n zs := by
  obtain ⟨h1, h2, h3, h4⟩ := h
  refine ⟨h1, h2, h3, ?_⟩
  rcases h4 with h4 | ⟨b, off, ha, hc⟩
  · exact .inl h4
  · refine .inr ⟨b, off, ha, fun j hj => ?_⟩
    rw [World.cell?_of_block (w := w) (w' := w') (a := ⟨b, off + j, none⟩) (hO.block b (hg _ ha))]
    exact hc j hj

/-- The first k places of cs are those of xs. -/
def mixR (xs cs : List Int) (k : Nat) : List Int := xs.take k ++ cs.drop k
theorem mixR_zero (xs cs : List Int) : mixR xs cs 0 = cs := by simp [mixR]
theorem mixR_all {xs cs : List Int} {k : Nat} (h1 : xs.length = k) (h2 : cs.length = k) : mixR xs cs k = xs := by
  unfold mixR; rw [List.take_of_length_le (by omega), List.drop_of_length_le (by omega), List.append_nil]
theorem mixR_length {xs cs : List Int} {k : Nat} (h : xs.length = cs.length) (hk : k ≤ xs.length) : (mixR xs cs k).length = cs.length := by
  unfold mixR; rw [List.length_append, List.length_take, List.length_drop]; omega
theorem mixR_get {xs cs : List Int} {k : Nat} (h : xs.length = cs.length) (hk : k < cs.length) : (mixR xs cs k)[k]? = some (cs.getD k 0) := by
  unfold mixR
  rw [List.getElem?_append_right (by rw [List.length_take]; omega), List.length_take, show k - min k xs.length = 0 by omega, List.getElem?_drop]
  simp [List.getD, List.getElem?_eq_getElem hk]
theorem mixR_set {xs cs : List Int} {k : Nat} (h : xs.length = cs.length) (hk : k < cs.length) : (mixR xs cs k).set k (xs.getD k 0) = mixR xs cs (k + 1) := by
  unfold mixR
  rw [List.set_append_right _ _ (by rw [List.length_take]; omega), List.length_take, show k - min k xs.length = 0 by omega, List.drop_eq_getElem_cons hk, List.set_cons_zero, List.take_add_one, List.getElem?_eq_getElem (show k < xs.length by omega), List.append_assoc]
  simp [List.getD, List.getElem?_eq_getElem (show k < xs.length by omega)]
theorem mixR_fits {xs cs : List Int} (h : Fits xs) (h' : Fits cs) (k : Nat) : Fits (mixR xs cs k) := by
  intro n hn
  unfold mixR at hn
  rcases List.mem_append.1 hn with hn | hn
  · exact h n (List.mem_of_mem_take hn)
  · exact h' n (List.mem_of_mem_drop hn)

/-- Each cell multiplied. -/
def scaleL (cs : List Int) (y : Int) : List Int := cs.map fun x => mulF x y
theorem scaleL_length (cs : List Int) (y : Int) : (scaleL cs y).length = cs.length := by simp [scaleL]
theorem scaleL_get {cs : List Int} {y : Int} {k : Nat} (h : k < cs.length) : (scaleL cs y).getD k 0 = mulF (cs.getD k 0) y := by
  simp [scaleL, List.getD, List.getElem?_eq_getElem h]
theorem scaleL_fits (cs : List Int) (y : Int) : Fits (scaleL cs y) := by
  intro n hn
  obtain ⟨x, -, rfl⟩ := List.mem_map.1 hn
  exact mulF_bounds x y
/-- The sums of the cells at the same places. -/
def addL (cs ds : List Int) : List Int := List.zipWith (fun x y => sat (x + y)) cs ds
theorem addL_length {cs ds : List Int} (h : cs.length = ds.length) : (addL cs ds).length = cs.length := by simp [addL]; omega
theorem addL_get {cs ds : List Int} {k : Nat} (h : cs.length = ds.length) (hk : k < cs.length) : (addL cs ds).getD k 0 = sat (cs.getD k 0 + ds.getD k 0) := by
  simp [addL, List.getD, List.getElem?_zipWith, List.getElem?_eq_getElem hk, List.getElem?_eq_getElem (show k < ds.length by omega)]
theorem addL_fits (cs ds : List Int) : Fits (addL cs ds) := by
  unfold addL
  induction cs generalizing ds with
  | nil => intro n hn; simp at hn
  | cons x cs ih =>
    cases ds with
    | nil => intro n hn; simp at hn
    | cons y ds =>
      intro n hn
      rw [List.zipWith_cons_cons, List.mem_cons] at hn
      rcases hn with rfl | hn
      · exact sat_bounds _
      · exact ih ds n hn
end Go.Proofs.Ytdimpgojamhakaa

/-
  Worlds in which all blocks that were there are as they were, some of them apart; new blocks may come.
-/
namespace Go.Proofs.Ytdimpgojamhakaa
open Go.RowKit
set_option linter.unusedVariables false
set_option linter.unusedSimpArgs false

structure Save (s : Nat → Prop) (w w' : World) : Prop where
  os : w'.os = w.os
  tape : w'.tape = w.tape
  output : w'.output = w.output
  size : w.heap.size ≤ w'.heap.size
  block : ∀ k, k < w.heap.size → ¬ s k → w'.heap[k]? = w.heap[k]?
section
variable {s : Nat → Prop} {w w' w'' : World}
theorem Save.refl (s : Nat → Prop) (w : World) : Save s w w := ⟨rfl, rfl, rfl, Nat.le_refl _, fun _ _ _ => rfl⟩
theorem Save.later (h : Save s w w') (hb : Below w'.heap.size w' w'') : Save s w w'' :=
  ⟨hb.os.trans h.os, hb.tape.trans h.tape, hb.output.trans h.output, Nat.le_trans h.size hb.size, fun k hk hs => (hb.block k (Nat.lt_of_lt_of_le hk h.size)).trans (h.block k hk hs)⟩
theorem Save.of_below (hb : Below w.heap.size w w') : Save s w w' := (Save.refl s w).later hb
theorem Save.setCell (h : Save s w w') {g : Nat} (hg : s g) (j : Nat) (v : Value) : Save s w (w'.setCell ⟨g, j, none⟩ v) := by
  have hb : Below 0 w' (w'.setCell ⟨g, j, none⟩ v) := (Below.refl 0 w').setCell (Nat.zero_le _) v
  refine ⟨hb.os.trans h.os, hb.tape.trans h.tape, hb.output.trans h.output, by simpa using h.size, fun k hk hs => (Below.heap_setCell w' ⟨g, j, none⟩ v k (fun e => hs (by subst e; exact hg))).trans (h.block k hk hs)⟩
theorem Save.drew (h : Save s w w') : Save s w w'.drew := ⟨h.os, h.tape, h.output, h.size, h.block⟩
theorem Save.drewN (h : Save s w w') (n : Nat) : Save s w (w'.drewN n) := ⟨h.os, h.tape, h.output, h.size, h.block⟩
theorem Save.grown {row : Option Nat} (h : Save s w w') (hg : w'.grownBy w'' row) (hr : ∀ q, row = some q → w.heap.size ≤ q) : Save s w w'' :=
  ⟨hg.os.trans h.os, hg.tape.trans h.tape, hg.output.trans h.output, Nat.le_trans h.size hg.size, fun k hk hs => (hg.block k (Nat.lt_of_lt_of_le hk h.size) (fun e => by have := hr k e.symm; omega)).trans (h.block k hk hs)⟩
theorem Save.below {B : Nat} {w0 : World} (h : Save s w w') (hb : Below B w0 w) (hB : B ≤ w.heap.size) (hg : ∀ k, s k → B ≤ k) : Below B w0 w' :=
  ⟨h.os.trans hb.os, h.tape.trans hb.tape, h.output.trans hb.output, Nat.le_trans hb.size h.size, fun k hk => (h.block k (by omega) (fun hs => by have := hg k hs; omega)).trans (hb.block k hk)⟩
theorem Save.gat {B : Nat} {x c : Value} (h : Save s w w') (hG : GAt w B x c) (hB : ¬ s B) : GAt w' B x c := (h.block B hG.lt hB).trans hG
theorem Save.cell {p : Addr} {v : Value} (h : Save s w w') (hc : w.cell? p = some v) (hp : ¬ s p.block) : w'.cell? p = some v :=
  (World.cell?_of_block (h.block p.block (World.block_lt_of_cell? w p hc) hp)).trans hc
theorem Save.ints {a : Option Addr} {n : Nat} {zs : List Int} (hO : Save s w w') (h : IntsAt w a n zs) (hg : ∀ q, a = some q → ¬ s q.block) : IntsAt w' a n zs := by
  obtain ⟨h1, h2, h3, h4⟩ := h
  refine ⟨h1, h2, h3, ?_⟩
  rcases h4 with h4 | ⟨b, off, ha, hc⟩
  · exact .inl h4
  · exact .inr ⟨b, off, ha, fun j hj => hO.cell (hc j hj) (fun hs => hg _ ha hs)⟩
theorem Save.row {B : Nat} {e : TypeId} {k : Nat} {v : Value} {n : Nat} {xs : List Value} (hO : Save s w w') (h : w.ownsRow B e k v n xs) (hg : ∀ q, v.ownBlock = some q → ¬ s q) : w'.ownsRow B e k v n xs := by
  rcases h.2 with h2 | ⟨g', cap, cur, hv, hbg, hg', rest⟩
  · exact ⟨h.1, .inl h2⟩
  · exact ⟨h.1, .inr ⟨g', cap, cur, hv, hbg, (hO.block g' (Array.getElem?_eq_some_iff.1 hg').1 (hg g' (by rw [hv]; rfl))).trans hg', rest⟩⟩
end
end Go.Proofs.Ytdimpgojamhakaa

