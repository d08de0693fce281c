/-
  The reference quotient of layer 1 is the quotient of the plain mathematics.
-/
import Derived.Test.YtgeomaaflajchaaRef01M
import Derived.Test.YtgeomaaflajchaaFixLaws
import Derived.Deep.DeepCutAuto
import Derived.Deep.CutBlock
namespace Go.Proofs.Ytgeomaaflajchaa
open Go.RowKit
set_option linter.unusedVariables false
set_option linter.unusedSimpArgs false

theorem tb_hi (X : Int) (k : Nat) : topBits (X * 4294967296) (k + 32) = topBits X k := by
  unfold topBits
  have e : (2 : Int) ^ (k + 32) = 2 ^ k * 4294967296 := by rw [Int.pow_add]; rfl
  rw [e]
  exact Int.mul_ediv_mul_of_pos_left _ _ (by omega)
theorem tb_lo (X : Int) (m : Nat) (hm : m < 32) : topBits (X * 4294967296) m % 2 = 0 := by
  unfold topBits
  have e : (4294967296 : Int) = 2 ^ (31 - m) * 2 * 2 ^ m := by
    have e1 : (2 : Int) ^ (31 - m) * 2 * 2 ^ m = 2 ^ (31 - m + 1 + m) := by rw [Int.pow_add, Int.pow_succ]
    rw [e1, show 31 - m + 1 + m = 32 from by omega]
    rfl
  rw [e, ← Int.mul_assoc, Int.mul_ediv_cancel _ (by have := pow_pos2 m; omega), ← Int.mul_assoc]
  omega
theorem div_step {T T' by' c : Int} (hb : 0 < by') (hT : T' = 2 * T + c) (h : by' ≤ 2 * (T % by') + c) (hc : c ≤ 1) : T' / by' = 2 * (T / by') + 1 ∧ T' % by' = 2 * (T % by') + c - by' := by
  have h1 := Int.ediv_mul_add_emod T by'
  have h3 := Int.emod_lt_of_pos T hb
  refine (Int.ediv_emod_unique hb).2 ⟨?_, by omega, by omega⟩
  rw [Int.mul_add, ← Int.mul_assoc, Int.mul_comm by' 2, Int.mul_assoc, Int.mul_comm by']
  omega
theorem div_stay {T T' by' c : Int} (hb : 0 < by') (hT : T' = 2 * T + c) (h : ¬ by' ≤ 2 * (T % by') + c) (hc : 0 ≤ c) : T' / by' = 2 * (T / by') ∧ T' % by' = 2 * (T % by') + c := by
  have h1 := Int.ediv_mul_add_emod T by'
  have h2 := Int.emod_nonneg T (show by' ≠ 0 by omega)
  refine (Int.ediv_emod_unique hb).2 ⟨?_, by omega, by omega⟩
  rw [← Int.mul_assoc, Int.mul_comm by' 2, Int.mul_assoc, Int.mul_comm by']
  omega
theorem TwoAt.put {w : World} {b : Nat} {h l : Int} (t : TwoAt w b h l) (l' : Int) : TwoAt (w.setCell ⟨b, 1, none⟩ (.int .u64 l')) b h l' := by
  obtain ⟨t1, t2, t3, t4⟩ := t
  refine ⟨?_, ?_, ?_, ?_⟩
  · rw [World.cell?_setCell_other _ _ _ _ (by simp)]; exact t1
  · exact World.cell?_setCell_same _ _ _ t2
  · simp [t3]
  · simp [t4]
theorem TwoAt.eq {w : World} {b : Nat} {h l l' : Int} (t : TwoAt w b h l) (e : l = l') : TwoAt w b h l' := e ▸ t
theorem or_one (h : Int) (h0 : 0 ≤ h) (h1 : h < 9223372036854775808) : bits .or .u64 (h * 2) 1 = h * 2 + 1 := or_even h 1 h0 h1 (by omega) (by omega)
theorem double_small (R : Int) (w : World) (h0 : 0 ≤ R) (h1 : R < 9223372036854775808) :
    Calls Try.prog 32 #[.agg #[.int .u64 0, .int .u64 R]] w fun e w' => e = .returned (.agg #[.int .u64 0, .int .u64 (R * 2)]) ∧ Below w.heap.size w w' := by
  refine (double_any 0 R w (by omega) (by omega) h0 (by omega)).mono fun e w' ⟨he, hb⟩ => ⟨he.trans (ret_wide (by omega) (by omega)), hb⟩

theorem refd_up (neg ov : Bool) (N R Y nn : Int) (n0 : 0 ≤ N) (hn : nn = N % 18446744073709551616) (ho : ov = decide (18446744073709551616 ≤ N)) (hu : up N R Y = true) : heldF (nn + 1) ov neg = sgn neg (rndFull N R Y) := by
  unfold rndFull
  rw [if_pos hu]
  by_cases c : 18446744073709551616 ≤ N
  · have : ov = true := by rw [ho]; exact decide_eq_true c
    subst this
    rw [heldF_true, sgn_big _ _ (by omega), sgn_big _ _ (by omega)]
  · have : ov = false := by rw [ho]; exact decide_eq_false c
    subst this
    rw [heldF_false]
    congr 1; omega
theorem refd_wrap (neg : Bool) (N R Y nn : Int) (n0 : 0 ≤ N) (hn : nn = N % 18446744073709551616) (hu : up N R Y = true) (h1 : nn + 1 = 18446744073709551616) : heldF 0 true neg = sgn neg (rndFull N R Y) := by
  unfold rndFull
  rw [if_pos hu, heldF_true, sgn_big _ _ (by omega), sgn_big _ _ (by omega)]
theorem refd_no (neg ov : Bool) (N R Y nn : Int) (n0 : 0 ≤ N) (hn : nn = N % 18446744073709551616) (ho : ov = decide (18446744073709551616 ≤ N)) (hu : up N R Y = false) : heldF nn ov neg = sgn neg (rndFull N R Y) := by
  have hr : rndFull N R Y = N := if_neg (by rw [hu]; decide)
  rw [hr]
  by_cases c : 18446744073709551616 ≤ N
  · have : ov = true := by rw [ho]; exact decide_eq_true c
    subst this
    rw [heldF_true, sgn_big _ _ (by omega), sgn_big _ _ (by omega)]
  · have : ov = false := by rw [ho]; exact decide_eq_false c
    subst this
    rw [heldF_false]
    congr 1; omega
theorem up_key (N R Y nn : Int) (hn : nn = N % 18446744073709551616) : (Y < R * 2 ∧ up N R Y = true) ∨ (¬ Y < R * 2 ∧ (R * 2 == Y) = true ∧ (nn % 2 == 1) = true ∧ up N R Y = true) ∨
    (¬ Y < R * 2 ∧ (R * 2 == Y) = true ∧ (nn % 2 == 1) = false ∧ up N R Y = false) ∨ (¬ Y < R * 2 ∧ (R * 2 == Y) = false ∧ up N R Y = false) := by
  by_cases r1 : Y < R * 2
  · exact .inl ⟨r1, up_a (by omega)⟩
  · by_cases r2 : R * 2 = Y
    · by_cases r3 : nn % 2 = 1
      · exact .inr (.inl ⟨r1, beq_iff_eq.2 r2, beq_iff_eq.2 r3, up_b (by omega) (by omega)⟩)
      · exact .inr (.inr (.inl ⟨r1, beq_iff_eq.2 r2, beq_eq_false_iff_ne.2 r3, up_c (by omega) (by omega)⟩))
    · exact .inr (.inr (.inr ⟨r1, beq_eq_false_iff_ne.2 r2, up_d (by omega) (by omega)⟩))

set_option maxHeartbeats 8000000 in
theorem refdiv_any (x y : Int) (w : World) (hx1 : -9223372036854775808 ≤ x) (hx2 : x ≤ 9223372036854775807) (hy1 : -9223372036854775808 ≤ y) (hy2 : y ≤ 9223372036854775807) :
    Calls Try.prog 13 #[.int .i64 x, .int .i64 y] w fun e w' => e = .returned (.int .i64 (divF x y)) ∧ Below w.heap.size w w' := by
  by_cases cx : x = 0
  · subst cx
    have D : Hid (0 = divF 0 y) := rfl
    go_enter Try.func13, Try.ntmps13
    go_wp2_with fail
    go_ret
    exact ⟨ret_int D.out, Below.refl _ _⟩
  have nx : (x == 0) = false := by rw [beq_eq_false_iff_ne]; exact cx
  by_cases cy : y = 0
  · subst cy
    have D : Hid (heldF 0 true (decide (x < 0)) = divF x 0) := by
      show _ = _
      unfold divF
      rw [if_neg cx, if_pos rfl, heldF_true, sgn_big _ _ (by omega)]
      by_cases c : x < 0 <;> simp [c]
    clear cx
    go_enter Try.func13, Try.ntmps13
    go_wp2_with fail
    refine (held_any 0 true _ _ (by omega) (by omega)).mono ?_
    rintro e w' ⟨rfl, rfl⟩
    go_wp2_with fail
    go_ret
    exact ⟨ret_int D.out, Below.refl _ _⟩
  have ny : (y == 0) = false := by rw [beq_eq_false_iff_ne]; exact cy
  obtain ⟨mx0, mx1⟩ := mag_bounds x hx1 hx2
  obtain ⟨my0, my1⟩ := mag_bounds y hy1 hy2
  have my2 : 0 < mag y := by unfold mag; split <;> omega
  have C1 := Lib.hid (fun w => size_any x w hx1 hx2)
  have C2 := Lib.hid (fun w => size_any y w hy1 hy2)
  have D : Hid (divF x y = sgn (decide (x < 0) != decide (y < 0)) (rndFull (mag x * 4294967296 / mag y) (mag x * 4294967296 % mag y) (mag y))) := by
    show _ = _
    unfold divF
    rw [if_neg cx, if_neg cy]
  clear hx1 hx2 hy1 hy2 cx cy
  generalize mag x = X at *
  generalize mag y = Y at *
  go_enter Try.func13, Try.ntmps13
  go_wp2_with fail
  refine (C2.out _).mono ?_
  rintro e w' ⟨rfl, rfl⟩
  go_wp2_with fail
  go_loopw [8, 9, 10] (fun s8 s9 s10 wr => ∃ (n : Nat) (nn : Int) (ov : Bool), n ≤ 96 ∧ s10 = .int .i64 ((n : Int) - 1) ∧ s8 = .int .u64 nn ∧ s9 = .bool ov ∧
      Hid (nn = topBits (X * 4294967296) n / Y % 18446744073709551616) ∧ Hid (ov = decide (18446744073709551616 ≤ topBits (X * 4294967296) n / Y)) ∧
      w.heap.size + 1 ≤ wr.heap.size ∧ TwoAt wr w.heap.size 0 (topBits (X * 4294967296) n % Y) ∧ Below w.heap.size w wr) (fun _ _ s10 _ => (intOf s10 + 1).toNat)
  case atStart =>
    have z : topBits (X * 4294967296) 96 = 0 := topBits_top _ 96 (by omega) (by omega)
    refine ⟨96, _, _, by omega, rfl, rfl, rfl, ?_, ?_, by simp, ?_, (Below.refl _ _).alloc (Nat.le_refl _) _⟩
    · show _ = _; rw [z]; simp
    · show _ = _; rw [z]; simp
    · rw [z]
      simp only [Int.zero_emod]
      refine ⟨?_, ?_, ?_, ?_⟩ <;> go_simp
  case round =>
    obtain ⟨n, nn, ov, hn, rfl, rfl, rfl, h1, h2, hsz, hT, hb⟩ := hrel
    rcases n with _ | m
    · rw [topBits_zero] at h1 h2 hT
      have n0 : 0 ≤ X * 4294967296 / Y := Int.ediv_nonneg (by omega) (by omega)
      have r0 : 0 ≤ X * 4294967296 % Y := Int.emod_nonneg _ (by omega)
      have r1 : X * 4294967296 % Y < Y := Int.emod_lt_of_pos _ my2
      generalize X * 4294967296 / Y = N at *
      generalize X * 4294967296 % Y = R at *
      have bn : 0 ≤ nn := by have := h1.out; omega
      have bn' : nn < 18446744073709551616 := by have := h1.out; omega
      obtain ⟨c1, c2, c3, c4⟩ := hT
      have DD := Lib.hid (fun w => double_small R w r0 (by omega))
      have key := up_key N R Y nn h1.out
      rcases key with ⟨g1, hu⟩ | ⟨g1, g2, g3, hu⟩ | ⟨g1, g2, g3, hu⟩ | ⟨g1, g2, hu⟩
      all_goals have HU := Lib.hid hu; clear hu
      · by_cases c : nn + 1 < 18446744073709551616
        · have c1 : (nn + 1 == 0) = false := by rw [beq_eq_false_iff_ne]; omega
          go_wp2_with fail
          refine (DD.out _).mono ?_
          rintro e w1 ⟨rfl, hb1⟩
          go_wp2_with fail
          refine (held_any _ _ _ _ (by omega) (by omega)).mono ?_
          rintro e w' ⟨rfl, rfl⟩
          go_wp2_with fail
          go_ret
          exact ⟨ret_int (by rw [D.out]; exact refd_up _ _ N R Y nn n0 h1.out h2.out HU.out), (hb.trans (hb1.mono (by omega))).alloc (by have := hb1.size; omega) _⟩
        · have c2 : nn + 1 = 18446744073709551616 := by omega
          have c1 : IntKind.u64.wrap (nn + 1) = 0 := by rw [wrap64u, c2]; rfl
          have K := Lib.hid c2; clear c2
          go_wp2_with fail
          refine (DD.out _).mono ?_
          rintro e w1 ⟨rfl, hb1⟩
          go_wp2_with fail
          refine (held_any _ _ _ _ (by omega) (by omega)).mono ?_
          rintro e w' ⟨rfl, rfl⟩
          go_wp2_with fail
          go_ret
          exact ⟨ret_int (by rw [D.out]; exact refd_wrap _ N R Y nn n0 h1.out HU.out K.out), (hb.trans (hb1.mono (by omega))).alloc (by have := hb1.size; omega) _⟩
      · by_cases c : nn + 1 < 18446744073709551616
        · have c1 : (nn + 1 == 0) = false := by rw [beq_eq_false_iff_ne]; omega
          go_wp2_with fail
          refine (DD.out _).mono ?_
          rintro e w1 ⟨rfl, hb1⟩
          go_wp2_with fail
          refine (held_any _ _ _ _ (by omega) (by omega)).mono ?_
          rintro e w' ⟨rfl, rfl⟩
          go_wp2_with fail
          go_ret
          exact ⟨ret_int (by rw [D.out]; exact refd_up _ _ N R Y nn n0 h1.out h2.out HU.out), (hb.trans (hb1.mono (by omega))).alloc (by have := hb1.size; omega) _⟩
        · have c2 : nn + 1 = 18446744073709551616 := by omega
          have c1 : IntKind.u64.wrap (nn + 1) = 0 := by rw [wrap64u, c2]; rfl
          have K := Lib.hid c2; clear c2
          go_wp2_with fail
          refine (DD.out _).mono ?_
          rintro e w1 ⟨rfl, hb1⟩
          go_wp2_with fail
          refine (held_any _ _ _ _ (by omega) (by omega)).mono ?_
          rintro e w' ⟨rfl, rfl⟩
          go_wp2_with fail
          go_ret
          exact ⟨ret_int (by rw [D.out]; exact refd_wrap _ N R Y nn n0 h1.out HU.out K.out), (hb.trans (hb1.mono (by omega))).alloc (by have := hb1.size; omega) _⟩
      · go_wp2_with fail
        refine (DD.out _).mono ?_
        rintro e w1 ⟨rfl, hb1⟩
        go_wp2_with fail
        refine (held_any _ _ _ _ (by omega) (by omega)).mono ?_
        rintro e w' ⟨rfl, rfl⟩
        go_wp2_with fail
        go_ret
        exact ⟨ret_int (by rw [D.out]; exact refd_no _ _ N R Y nn n0 h1.out h2.out HU.out), (hb.trans (hb1.mono (by omega))).alloc (by have := hb1.size; omega) _⟩
      · go_wp2_with fail
        refine (DD.out _).mono ?_
        rintro e w1 ⟨rfl, hb1⟩
        go_wp2_with fail
        refine (held_any _ _ _ _ (by omega) (by omega)).mono ?_
        rintro e w' ⟨rfl, rfl⟩
        go_wp2_with fail
        go_ret
        exact ⟨ret_int (by rw [D.out]; exact refd_no _ _ N R Y nn n0 h1.out h2.out HU.out), (hb.trans (hb1.mono (by omega))).alloc (by have := hb1.size; omega) _⟩
    · have t0 : 0 ≤ topBits (X * 4294967296) (m + 1) % Y := Int.emod_nonneg _ (by omega)
      have t1 : topBits (X * 4294967296) (m + 1) % Y < Y := Int.emod_lt_of_pos _ my2
      have hs := topBits_split (X * 4294967296) m
      have n0 : 0 ≤ topBits (X * 4294967296) (m + 1) / Y := Int.ediv_nonneg (topBits_nonneg _ _ (by omega)) (by omega)
      obtain ⟨β, hβ⟩ : ∃ β, topBits (X * 4294967296) m % 2 = β := ⟨_, rfl⟩
      rw [hβ] at hs
      have b0 : 0 ≤ β := by omega
      have b1 : β ≤ 1 := by omega
      have hmore := div_step (by' := Y) (c := β) my2 hs
      have hless := div_stay (by' := Y) (c := β) my2 hs
      have bn : 0 ≤ nn := by have := h1.out; omega
      have bn' : nn < 18446744073709551616 := by have := h1.out; omega
      clear hs
      generalize topBits (X * 4294967296) (m + 1) / Y = N at *
      generalize topBits (X * 4294967296) (m + 1) % Y = R at *
      obtain ⟨N', hN'⟩ : ∃ N', topBits (X * 4294967296) m / Y = N' := ⟨_, rfl⟩
      obtain ⟨R', hR'⟩ : ∃ R', topBits (X * 4294967296) m % Y = R' := ⟨_, rfl⟩
      rw [hN', hR'] at hmore hless
      have HN := Lib.hid hN'; clear hN'
      have HR := Lib.hid hR'; clear hR'
      have hbit : (32 ≤ m ∧ ∃ k, m = k + 32 ∧ Hid (topBits X k % 2 = β)) ∨ (m < 32 ∧ β = 0) := by
        by_cases c : 32 ≤ m
        · obtain ⟨k, rfl⟩ : ∃ k, m = k + 32 := ⟨m - 32, by omega⟩
          exact .inl ⟨c, k, rfl, by rw [← tb_hi]; exact hβ⟩
        · exact .inr ⟨by omega, by rw [← hβ]; exact tb_lo X m (by omega)⟩
      clear hβ
      have Hm := Lib.hid hmore
      have Hl := Lib.hid hless
      clear hmore hless
      have DD := Lib.hid (fun w => double_small R w t0 (by omega))
      obtain ⟨c1, c2, c3, c4⟩ := hT
      rw [show ((m + 1 : Nat) : Int) - 1 = (m : Int) from by omega]
      go_wp2_with fail
      refine (DD.out _).mono ?_
      rintro e w1 ⟨rfl, hb1⟩
      have hz := hb1.size
      have X0 := TwoAt.below ⟨c1, c2, c3, c4⟩ hb1 (by omega)
      clear c1 c2 c3 c4
      have hx := X0
      obtain ⟨x1, x2, x3, x4⟩ := hx
      go_upto_region 14 with (fail)
      go_cut [44] (fun s44 wx => s44 = .bool (decide (β = 1)) ∧ wx = (w1.setCell ⟨w.heap.size, 0, none⟩ (.int .u64 0)).setCell ⟨w.heap.size, 1, none⟩ (.int .u64 (R * 2)))
      case first =>
        rcases hbit with ⟨hm, k, rfl, hk⟩ | ⟨hm, hk⟩
        · have e1 : bits .and .u64 (X / 2 ^ k) 1 = topBits X k % 2 := and1 _ (topBits_nonneg X k mx0) (by have := topBits_le X k mx0; unfold topBits at this; omega)
          rw [hk.out] at e1
          by_cases cβ : β = 1
          · have e2 : (bits .and .u64 (X / 2 ^ k) 1 == 1) = true := by rw [e1, cβ]; rfl
            have K := Lib.hid cβ; clear cβ e1
            go_wp2_with (refine (C1.out _).mono ?_; rintro e w' ⟨rfl, rfl⟩)
            go_meet
            exact ⟨by rw [K.out]; rfl, rfl⟩
          · have e3 : β = 0 := by omega
            have e2 : (bits .and .u64 (X / 2 ^ k) 1 == 1) = false := by rw [e1, e3]; rfl
            have K := Lib.hid e3; clear cβ e1 e3
            go_wp2_with (refine (C1.out _).mono ?_; rintro e w' ⟨rfl, rfl⟩)
            go_meet
            exact ⟨by rw [K.out]; rfl, rfl⟩
        · have K := Lib.hid hk; clear hk
          go_wp2_with fail
          go_meet
          exact ⟨by rw [K.out]; rfl, rfl⟩
      case rest =>
        obtain ⟨rfl, rfl⟩ := hcut
        have Y2 := X0.store 0 (R * 2)
        have hb2 := ((hb.trans (hb1.mono (by omega))).setCell (p := ⟨w.heap.size, 0, none⟩) (by simp) (.int .u64 0)).setCell (p := ⟨w.heap.size, 1, none⟩) (by simp) (.int .u64 (R * 2))
        have hsz2 : w.heap.size + 1 ≤ ((w1.setCell ⟨w.heap.size, 0, none⟩ (.int .u64 0)).setCell ⟨w.heap.size, 1, none⟩ (.int .u64 (R * 2))).heap.size := by simp; omega
        generalize (w1.setCell ⟨w.heap.size, 0, none⟩ (.int .u64 0)).setCell ⟨w.heap.size, 1, none⟩ (.int .u64 (R * 2)) = W2 at *
        clear X0 hb1 x1 x2 x3 x4 hz hsz hb hbit
        have hx := Y2
        obtain ⟨x1, x2, x3, x4⟩ := hx
        have hβ : β = 0 ∨ β = 1 := by omega
        rcases hβ with rfl | rfl
        · by_cases g1 : Y ≤ R * 2
          · by_cases g2 : 9223372036854775808 ≤ nn
            · have e5 : IntKind.u64.wrap (nn * 2) = nn * 2 - 18446744073709551616 := by rw [wrap64u]; omega
              have e6 : bits .or .u64 (nn * 2 - 18446744073709551616) 1 = nn * 2 - 18446744073709551616 + 1 := by
                have := or_one (nn - 9223372036854775808) (by omega) (by omega)
                rw [show (nn - 9223372036854775808) * 2 = nn * 2 - 18446744073709551616 from by omega] at this
                exact this
              go_wp2_with fail
              refine ⟨⟨m, _, _, by omega, rfl, rfl, rfl, ?_, ?_, ?_, ?_, ?_⟩, by (simp [intOf]; try omega)⟩
              · show _ = _
                rw [HN.out]
                have q1 := h1.out
                obtain ⟨p1, p2⟩ := Hm.out (by omega) (by omega)
                omega
              · show _ = _
                rw [HN.out]
                have q1 := h1.out
                obtain ⟨p1, p2⟩ := Hm.out (by omega) (by omega)
                first
                  | exact (decide_eq_true (by omega)).symm
                  | (rw [h2.out]; exact decide_eq_decide.2 (by omega))
              · first | omega | (simp; omega)
              · obtain ⟨p1, p2⟩ := Hm.out (by omega) (by omega)
                rw [HR.out, p2]
                first
                  | exact TwoAt.eq (Y2.put _) (by omega)
                  | exact TwoAt.eq ((Y2.put _).put _) (by omega)
                  | exact TwoAt.eq Y2 (by omega)
              · first
                  | exact hb2
                  | exact hb2.setCell (by simp) _
                  | exact (hb2.setCell (by simp) _).setCell (by simp) _
            · have e6 : bits .or .u64 (nn * 2) 1 = nn * 2 + 1 := or_one nn bn (by omega)
              go_wp2_with fail
              refine ⟨⟨m, _, _, by omega, rfl, rfl, rfl, ?_, ?_, ?_, ?_, ?_⟩, by (simp [intOf]; try omega)⟩
              · show _ = _
                rw [HN.out]
                have q1 := h1.out
                obtain ⟨p1, p2⟩ := Hm.out (by omega) (by omega)
                omega
              · show _ = _
                rw [HN.out]
                have q1 := h1.out
                obtain ⟨p1, p2⟩ := Hm.out (by omega) (by omega)
                first
                  | exact (decide_eq_true (by omega)).symm
                  | (rw [h2.out]; exact decide_eq_decide.2 (by omega))
              · first | omega | (simp; omega)
              · obtain ⟨p1, p2⟩ := Hm.out (by omega) (by omega)
                rw [HR.out, p2]
                first
                  | exact TwoAt.eq (Y2.put _) (by omega)
                  | exact TwoAt.eq ((Y2.put _).put _) (by omega)
                  | exact TwoAt.eq Y2 (by omega)
              · first
                  | exact hb2
                  | exact hb2.setCell (by simp) _
                  | exact (hb2.setCell (by simp) _).setCell (by simp) _
          · by_cases g2 : 9223372036854775808 ≤ nn
            · have e5 : IntKind.u64.wrap (nn * 2) = nn * 2 - 18446744073709551616 := by rw [wrap64u]; omega
              go_wp2_with fail
              refine ⟨⟨m, _, _, by omega, rfl, rfl, rfl, ?_, ?_, ?_, ?_, ?_⟩, by (simp [intOf]; try omega)⟩
              · show _ = _
                rw [HN.out]
                have q1 := h1.out
                obtain ⟨p1, p2⟩ := Hl.out (by omega) (by omega)
                omega
              · show _ = _
                rw [HN.out]
                have q1 := h1.out
                obtain ⟨p1, p2⟩ := Hl.out (by omega) (by omega)
                first
                  | exact (decide_eq_true (by omega)).symm
                  | (rw [h2.out]; exact decide_eq_decide.2 (by omega))
              · first | omega | (simp; omega)
              · obtain ⟨p1, p2⟩ := Hl.out (by omega) (by omega)
                rw [HR.out, p2]
                first
                  | exact TwoAt.eq (Y2.put _) (by omega)
                  | exact TwoAt.eq ((Y2.put _).put _) (by omega)
                  | exact TwoAt.eq Y2 (by omega)
              · first
                  | exact hb2
                  | exact hb2.setCell (by simp) _
                  | exact (hb2.setCell (by simp) _).setCell (by simp) _
            · go_wp2_with fail
              refine ⟨⟨m, _, _, by omega, rfl, rfl, rfl, ?_, ?_, ?_, ?_, ?_⟩, by (simp [intOf]; try omega)⟩
              · show _ = _
                rw [HN.out]
                have q1 := h1.out
                obtain ⟨p1, p2⟩ := Hl.out (by omega) (by omega)
                omega
              · show _ = _
                rw [HN.out]
                have q1 := h1.out
                obtain ⟨p1, p2⟩ := Hl.out (by omega) (by omega)
                first
                  | exact (decide_eq_true (by omega)).symm
                  | (rw [h2.out]; exact decide_eq_decide.2 (by omega))
              · first | omega | (simp; omega)
              · obtain ⟨p1, p2⟩ := Hl.out (by omega) (by omega)
                rw [HR.out, p2]
                first
                  | exact TwoAt.eq (Y2.put _) (by omega)
                  | exact TwoAt.eq ((Y2.put _).put _) (by omega)
                  | exact TwoAt.eq Y2 (by omega)
              · first
                  | exact hb2
                  | exact hb2.setCell (by simp) _
                  | exact (hb2.setCell (by simp) _).setCell (by simp) _
        · have ho : bits .or .u64 (R * 2) 1 = R * 2 + 1 := or_one R t0 (by omega)
          by_cases g1 : Y ≤ R * 2 + 1
          · by_cases g2 : 9223372036854775808 ≤ nn
            · have e5 : IntKind.u64.wrap (nn * 2) = nn * 2 - 18446744073709551616 := by rw [wrap64u]; omega
              have e6 : bits .or .u64 (nn * 2 - 18446744073709551616) 1 = nn * 2 - 18446744073709551616 + 1 := by
                have := or_one (nn - 9223372036854775808) (by omega) (by omega)
                rw [show (nn - 9223372036854775808) * 2 = nn * 2 - 18446744073709551616 from by omega] at this
                exact this
              go_wp2_with fail
              refine ⟨⟨m, _, _, by omega, rfl, rfl, rfl, ?_, ?_, ?_, ?_, ?_⟩, by (simp [intOf]; try omega)⟩
              · show _ = _
                rw [HN.out]
                have q1 := h1.out
                obtain ⟨p1, p2⟩ := Hm.out (by omega) (by omega)
                omega
              · show _ = _
                rw [HN.out]
                have q1 := h1.out
                obtain ⟨p1, p2⟩ := Hm.out (by omega) (by omega)
                first
                  | exact (decide_eq_true (by omega)).symm
                  | (rw [h2.out]; exact decide_eq_decide.2 (by omega))
              · first | omega | (simp; omega)
              · obtain ⟨p1, p2⟩ := Hm.out (by omega) (by omega)
                rw [HR.out, p2]
                first
                  | exact TwoAt.eq (Y2.put _) (by omega)
                  | exact TwoAt.eq ((Y2.put _).put _) (by omega)
                  | exact TwoAt.eq Y2 (by omega)
              · first
                  | exact hb2
                  | exact hb2.setCell (by simp) _
                  | exact (hb2.setCell (by simp) _).setCell (by simp) _
            · have e6 : bits .or .u64 (nn * 2) 1 = nn * 2 + 1 := or_one nn bn (by omega)
              go_wp2_with fail
              refine ⟨⟨m, _, _, by omega, rfl, rfl, rfl, ?_, ?_, ?_, ?_, ?_⟩, by (simp [intOf]; try omega)⟩
              · show _ = _
                rw [HN.out]
                have q1 := h1.out
                obtain ⟨p1, p2⟩ := Hm.out (by omega) (by omega)
                omega
              · show _ = _
                rw [HN.out]
                have q1 := h1.out
                obtain ⟨p1, p2⟩ := Hm.out (by omega) (by omega)
                first
                  | exact (decide_eq_true (by omega)).symm
                  | (rw [h2.out]; exact decide_eq_decide.2 (by omega))
              · first | omega | (simp; omega)
              · obtain ⟨p1, p2⟩ := Hm.out (by omega) (by omega)
                rw [HR.out, p2]
                first
                  | exact TwoAt.eq (Y2.put _) (by omega)
                  | exact TwoAt.eq ((Y2.put _).put _) (by omega)
                  | exact TwoAt.eq Y2 (by omega)
              · first
                  | exact hb2
                  | exact hb2.setCell (by simp) _
                  | exact (hb2.setCell (by simp) _).setCell (by simp) _
          · by_cases g2 : 9223372036854775808 ≤ nn
            · have e5 : IntKind.u64.wrap (nn * 2) = nn * 2 - 18446744073709551616 := by rw [wrap64u]; omega
              go_wp2_with fail
              refine ⟨⟨m, _, _, by omega, rfl, rfl, rfl, ?_, ?_, ?_, ?_, ?_⟩, by (simp [intOf]; try omega)⟩
              · show _ = _
                rw [HN.out]
                have q1 := h1.out
                obtain ⟨p1, p2⟩ := Hl.out (by omega) (by omega)
                omega
              · show _ = _
                rw [HN.out]
                have q1 := h1.out
                obtain ⟨p1, p2⟩ := Hl.out (by omega) (by omega)
                first
                  | exact (decide_eq_true (by omega)).symm
                  | (rw [h2.out]; exact decide_eq_decide.2 (by omega))
              · first | omega | (simp; omega)
              · obtain ⟨p1, p2⟩ := Hl.out (by omega) (by omega)
                rw [HR.out, p2]
                first
                  | exact TwoAt.eq (Y2.put _) (by omega)
                  | exact TwoAt.eq ((Y2.put _).put _) (by omega)
                  | exact TwoAt.eq Y2 (by omega)
              · first
                  | exact hb2
                  | exact hb2.setCell (by simp) _
                  | exact (hb2.setCell (by simp) _).setCell (by simp) _
            · go_wp2_with fail
              refine ⟨⟨m, _, _, by omega, rfl, rfl, rfl, ?_, ?_, ?_, ?_, ?_⟩, by (simp [intOf]; try omega)⟩
              · show _ = _
                rw [HN.out]
                have q1 := h1.out
                obtain ⟨p1, p2⟩ := Hl.out (by omega) (by omega)
                omega
              · show _ = _
                rw [HN.out]
                have q1 := h1.out
                obtain ⟨p1, p2⟩ := Hl.out (by omega) (by omega)
                first
                  | exact (decide_eq_true (by omega)).symm
                  | (rw [h2.out]; exact decide_eq_decide.2 (by omega))
              · first | omega | (simp; omega)
              · obtain ⟨p1, p2⟩ := Hl.out (by omega) (by omega)
                rw [HR.out, p2]
                first
                  | exact TwoAt.eq (Y2.put _) (by omega)
                  | exact TwoAt.eq ((Y2.put _).put _) (by omega)
                  | exact TwoAt.eq Y2 (by omega)
              · first
                  | exact hb2
                  | exact hb2.setCell (by simp) _
                  | exact (hb2.setCell (by simp) _).setCell (by simp) _
end Go.Proofs.Ytgeomaaflajchaa
