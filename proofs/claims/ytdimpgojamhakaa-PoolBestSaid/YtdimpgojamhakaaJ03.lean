import Derived.Test.YtdimpgojamhakaaJ01
import Derived.Test.YtdimpgojamhakaaJ02
import Derived.LoopTactic
import Derived.WalkSmall
import Derived.Deep.DeepCutAuto
import Derived.Deep.CutBlock
import Derived.Deep.RegionWith
/-
  Contracts of the reference package of layer 1: each function's result, for every argument.
-/
namespace Go.Proofs.Ytdimpgojamhakaa
open Go.RowKit
set_option linter.unusedVariables false
set_option linter.unusedSimpArgs false

set_option maxHeartbeats 400000 in
theorem refmag_any (x : Int) (w : World) (h1 : -9223372036854775808 ≤ x) (h2 : x ≤ 9223372036854775807) :
    Calls Try.prog 58 #[.int .i64 x] w fun e w' => e = .returned (.int .u64 (mag x)) ∧ w = w' := by
  go_enter Try.func58, Try.ntmps58
  go_wp2
  all_goals
    go_ret
    exact ⟨ret_int (by unfold mag; split <;> omega), rfl⟩

set_option maxHeartbeats 400000 in
theorem held_any (n : Int) (over negative : Bool) (w : World) (h0 : 0 ≤ n) (h1 : n < 18446744073709551616) :
    Calls Try.prog 57 #[.int .u64 n, .bool over, .bool negative] w fun e w' => e = .returned (.int .i64 (heldF n over negative)) ∧ w = w' := by
  cases over <;> cases negative
  · go_enter Try.func57, Try.ntmps57
    go_wp2
    all_goals
      go_ret
      exact ⟨ret_int (by (first | rw [heldF_false] | rw [heldF_true]); (unfold sgn; first | (rw [if_pos (by omega)]; rfl) | (rw [if_neg (by omega)]; rfl))), rfl⟩
  · rcases Int.lt_trichotomy n 9223372036854775808 with c | c | c
    · have d : (n == 9223372036854775808) = false := by rw [beq_eq_false_iff_ne]; omega
      go_enter Try.func57, Try.ntmps57
      go_wp2
      go_ret
      exact ⟨ret_int (by (first | rw [heldF_false] | rw [heldF_true]); (unfold sgn; rw [if_pos c]; rfl)), rfl⟩
    · subst c
      go_enter Try.func57, Try.ntmps57
      go_wp2
      go_ret
      exact ⟨ret_int (by (first | rw [heldF_false] | rw [heldF_true]); (unfold sgn; rfl)), rfl⟩
    · go_enter Try.func57, Try.ntmps57
      go_wp2
      go_ret
      exact ⟨ret_int (by (first | rw [heldF_false] | rw [heldF_true]); (unfold sgn; rw [if_neg (by omega)]; rfl)), rfl⟩
  · go_enter Try.func57, Try.ntmps57
    go_wp2
    go_ret
    exact ⟨ret_int (by (first | rw [heldF_false] | rw [heldF_true]); (unfold sgn; rfl)), rfl⟩
  · go_enter Try.func57, Try.ntmps57
    go_wp2
    go_ret
    exact ⟨ret_int (by (first | rw [heldF_false] | rw [heldF_true]); (unfold sgn; rfl)), rfl⟩

set_option maxHeartbeats 400000 in
theorem refadd_any (x y : Int) (w : World) (hx1 : -9223372036854775808 ≤ x) (hx2 : x ≤ 9223372036854775807) (hy1 : -9223372036854775808 ≤ y) (hy2 : y ≤ 9223372036854775807) :
    Calls Try.prog 33 #[.int .i64 x, .int .i64 y] w fun e w' => e = .returned (.int .i64 (sat (x + y))) ∧ w = w' := by
  go_enter Try.func33, Try.ntmps33
  go_wp2
  all_goals
    go_ret
    exact ⟨ret_int (by unfold sat; split <;> (try split) <;> omega), rfl⟩

theorem ret_wide {a b c d : Int} (h : a = b) (h' : c = d) : Ending.returned (.agg #[.int .u64 a, .int .u64 c]) = .returned (.agg #[.int .u64 b, .int .u64 d]) := by rw [h, h']

set_option maxHeartbeats 400000 in
theorem double_any (h l : Int) (w : World) (h0 : 0 ≤ h) (h1 : h < 9223372036854775808) (l0 : 0 ≤ l) (l1 : l < 18446744073709551616) :
    Calls Try.prog 59 #[.agg #[.int .u64 h, .int .u64 l]] w fun e w' => e = .returned (.agg #[.int .u64 (h * 2 + l / 9223372036854775808), .int .u64 (l * 2 % 18446744073709551616)]) ∧ Below w.heap.size w w' := by
  have c := or_even h (l / 9223372036854775808) h0 h1 (by omega) (by omega)
  have d := wrap64u (l * 2)
  go_enter Try.func59, Try.ntmps59
  go_wp2
  exact bodyPost_ret (v := .agg #[.int .u64 (h * 2 + l / 9223372036854775808), .int .u64 (l * 2 % 18446744073709551616)]) (by simp [results, Try.results59, go_sem]) rfl ⟨rfl, ((Below.refl _ _).alloc (Nat.le_refl _) _).alloc (by simp) _⟩

theorem double_val (V : Int) (w : World) (h0 : 0 ≤ V) (h1 : V < 170141183460469231731687303715884105728) :
    Calls Try.prog 59 #[.agg #[.int .u64 (V / 18446744073709551616), .int .u64 (V % 18446744073709551616)]] w fun e w' => e = .returned (.agg #[.int .u64 (V * 2 / 18446744073709551616), .int .u64 (V * 2 % 18446744073709551616)]) ∧ Below w.heap.size w w' := by
  refine (double_any _ _ w (by omega) (by omega) (by omega) (by omega)).mono fun e w' ⟨he, hb⟩ => ⟨he.trans (ret_wide (by omega) (by omega)), hb⟩

end Go.Proofs.Ytdimpgojamhakaa
/-
  Contracts of the reference package of layer 1: the product by its bits.
-/
namespace Go.Proofs.Ytdimpgojamhakaa
open Go.RowKit
set_option linter.unusedVariables false
set_option linter.unusedSimpArgs false

/-- A block of the call's own holds two words. -/
def TwoAt (w : World) (b : Nat) (h l : Int) : Prop :=
  w.cell? ⟨b, 0, none⟩ = some (.int .u64 h) ∧ w.cell? ⟨b, 1, none⟩ = some (.int .u64 l) ∧ w.frozen? ⟨b, 0, none⟩ = false ∧ w.frozen? ⟨b, 1, none⟩ = false

theorem TwoAt.below {W w1 : World} {b : Nat} {h l : Int} (t : TwoAt W b h l) (hb : Below W.heap.size W w1) (hs : b < W.heap.size) : TwoAt w1 b h l :=
  ⟨((bcell hb).1 b 0 hs).trans t.1, ((bcell hb).1 b 1 hs).trans t.2.1, ((bcell hb).2 b 0 hs).trans t.2.2.1, ((bcell hb).2 b 1 hs).trans t.2.2.2⟩

theorem TwoAt.store {w : World} {b : Nat} {h l : Int} (t : TwoAt w b h l) (h' l' : Int) :
    TwoAt ((w.setCell ⟨b, 0, none⟩ (.int .u64 h')).setCell ⟨b, 1, none⟩ (.int .u64 l')) b h' l' := by
  obtain ⟨t1, t2, t3, t4⟩ := t
  refine ⟨?_, ?_, ?_, ?_⟩
  · rw [World.cell?_setCell_other _ _ _ _ (by simp), World.cell?_setCell_same _ _ _ t1]
  · exact World.cell?_setCell_same _ _ _ (u := .int .u64 l) (by rw [World.cell?_setCell_other _ _ _ _ (by simp)]; exact t2)
  · simp [t3]
  · simp [t4]
theorem TwoAt.other {w : World} {b c : Nat} {h l : Int} (t : TwoAt w b h l) (hne : c ≠ b) (o : Nat) (v : Value) : TwoAt (w.setCell ⟨c, o, none⟩ v) b h l := by
  obtain ⟨t1, t2, t3, t4⟩ := t
  refine ⟨?_, ?_, ?_, ?_⟩
  · rw [World.cell?_setCell_other _ _ _ _ (by simp [hne])]; exact t1
  · rw [World.cell?_setCell_other _ _ _ _ (by simp [hne])]; exact t2
  · simp [t3]
  · simp [t4]

end Go.Proofs.Ytdimpgojamhakaa
/-
  The reference product of layer 1 is the product of the plain mathematics.
-/
namespace Go.Proofs.Ytdimpgojamhakaa
open Go.RowKit
set_option linter.unusedVariables false
set_option linter.unusedSimpArgs false

theorem refm_up (neg : Bool) (P Q : Int) (h0 : 0 ≤ P) (hQ : P / 4294967296 % 18446744073709551616 = Q) (hu : up (P / 4294967296) (P % 4294967296) 4294967296 = true) (hq : Q + 1 < 18446744073709551616) :
    heldF (Q + 1) (decide (0 < P / 18446744073709551616 / 4294967296)) neg = sgn neg (rndFull (P / 4294967296) (P % 4294967296) 4294967296) := by
  unfold heldF rndFull
  rw [if_pos hu]
  by_cases c : 0 < P / 18446744073709551616 / 4294967296
  · rw [if_pos (by simpa using c), sgn_big _ _ (by omega), sgn_big _ _ (by omega)]
  · rw [if_neg (by simpa using c)]
    congr 1; omega
theorem refm_wrap (neg : Bool) (P Q : Int) (h0 : 0 ≤ P) (hQ : P / 4294967296 % 18446744073709551616 = Q) (hu : up (P / 4294967296) (P % 4294967296) 4294967296 = true) (hq : Q + 1 = 18446744073709551616) :
    heldF 0 true neg = sgn neg (rndFull (P / 4294967296) (P % 4294967296) 4294967296) := by
  unfold rndFull
  rw [if_pos hu, heldF_true, sgn_big _ _ (by omega), sgn_big _ _ (by omega)]
theorem refm_no (neg : Bool) (P Q : Int) (h0 : 0 ≤ P) (hQ : P / 4294967296 % 18446744073709551616 = Q) (hu : up (P / 4294967296) (P % 4294967296) 4294967296 = false) :
    heldF Q (decide (0 < P / 18446744073709551616 / 4294967296)) neg = sgn neg (rndFull (P / 4294967296) (P % 4294967296) 4294967296) := by
  unfold heldF
  have hr : rndFull (P / 4294967296) (P % 4294967296) 4294967296 = P / 4294967296 := if_neg (by rw [hu]; decide)
  rw [hr]
  by_cases c : 0 < P / 18446744073709551616 / 4294967296
  · rw [if_pos (by simpa using c), sgn_big _ _ (by omega), sgn_big _ _ (by omega)]
  · rw [if_neg (by simpa using c)]
    congr 1; omega

end Go.Proofs.Ytdimpgojamhakaa
/-
  The reference quotient of layer 1 is the quotient of the plain mathematics.
-/
namespace Go.Proofs.Ytdimpgojamhakaa
open Go.RowKit
set_option linter.unusedVariables false
set_option linter.unusedSimpArgs false

theorem tb_hi (X : Int) (k : Nat) : topBits (X * 4294967296) (k + 32) = topBits X k := by
  unfold topBits
  have e : (2 : Int) ^ (k + 32) = 2 ^ k * 4294967296 := by rw [Int.pow_add]; rfl
  rw [e]
  exact Int.mul_ediv_mul_of_pos_left _ _ (by omega)
theorem tb_lo (X : Int) (m : Nat) (hm : m < 32) : topBits (X * 4294967296) m % 2 = 0 := by
  unfold topBits
  have e : (4294967296 : Int) = 2 ^ (31 - m) * 2 * 2 ^ m := by
    have e1 : (2 : Int) ^ (31 - m) * 2 * 2 ^ m = 2 ^ (31 - m + 1 + m) := by rw [Int.pow_add, Int.pow_succ]
    rw [e1, show 31 - m + 1 + m = 32 from by omega]
    rfl
  rw [e, ← Int.mul_assoc, Int.mul_ediv_cancel _ (by have := pow_pos2 m; omega), ← Int.mul_assoc]
  omega
theorem div_step {T T' by' c : Int} (hb : 0 < by') (hT : T' = 2 * T + c) (h : by' ≤ 2 * (T % by') + c) (hc : c ≤ 1) : T' / by' = 2 * (T / by') + 1 ∧ T' % by' = 2 * (T % by') + c - by' := by
  have h1 := Int.ediv_mul_add_emod T by'
  have h3 := Int.emod_lt_of_pos T hb
  refine (Int.ediv_emod_unique hb).2 ⟨?_, by omega, by omega⟩
  rw [Int.mul_add, ← Int.mul_assoc, Int.mul_comm by' 2, Int.mul_assoc, Int.mul_comm by']
  omega
theorem div_stay {T T' by' c : Int} (hb : 0 < by') (hT : T' = 2 * T + c) (h : ¬ by' ≤ 2 * (T % by') + c) (hc : 0 ≤ c) : T' / by' = 2 * (T / by') ∧ T' % by' = 2 * (T % by') + c := by
  have h1 := Int.ediv_mul_add_emod T by'
  have h2 := Int.emod_nonneg T (show by' ≠ 0 by omega)
  refine (Int.ediv_emod_unique hb).2 ⟨?_, by omega, by omega⟩
  rw [← Int.mul_assoc, Int.mul_comm by' 2, Int.mul_assoc, Int.mul_comm by']
  omega
theorem TwoAt.put {w : World} {b : Nat} {h l : Int} (t : TwoAt w b h l) (l' : Int) : TwoAt (w.setCell ⟨b, 1, none⟩ (.int .u64 l')) b h l' := by
  obtain ⟨t1, t2, t3, t4⟩ := t
  refine ⟨?_, ?_, ?_, ?_⟩
  · rw [World.cell?_setCell_other _ _ _ _ (by simp)]; exact t1
  · exact World.cell?_setCell_same _ _ _ t2
  · simp [t3]
  · simp [t4]
theorem TwoAt.eq {w : World} {b : Nat} {h l l' : Int} (t : TwoAt w b h l) (e : l = l') : TwoAt w b h l' := e ▸ t
theorem or_one (h : Int) (h0 : 0 ≤ h) (h1 : h < 9223372036854775808) : bits .or .u64 (h * 2) 1 = h * 2 + 1 := or_even h 1 h0 h1 (by omega) (by omega)
theorem double_small (R : Int) (w : World) (h0 : 0 ≤ R) (h1 : R < 9223372036854775808) :
    Calls Try.prog 59 #[.agg #[.int .u64 0, .int .u64 R]] w fun e w' => e = .returned (.agg #[.int .u64 0, .int .u64 (R * 2)]) ∧ Below w.heap.size w w' := by
  refine (double_any 0 R w (by omega) (by omega) h0 (by omega)).mono fun e w' ⟨he, hb⟩ => ⟨he.trans (ret_wide (by omega) (by omega)), hb⟩

theorem refd_up (neg ov : Bool) (N R Y nn : Int) (n0 : 0 ≤ N) (hn : nn = N % 18446744073709551616) (ho : ov = decide (18446744073709551616 ≤ N)) (hu : up N R Y = true) : heldF (nn + 1) ov neg = sgn neg (rndFull N R Y) := by
  unfold rndFull
  rw [if_pos hu]
  by_cases c : 18446744073709551616 ≤ N
  · have : ov = true := by rw [ho]; exact decide_eq_true c
    subst this
    rw [heldF_true, sgn_big _ _ (by omega), sgn_big _ _ (by omega)]
  · have : ov = false := by rw [ho]; exact decide_eq_false c
    subst this
    rw [heldF_false]
    congr 1; omega
theorem refd_wrap (neg : Bool) (N R Y nn : Int) (n0 : 0 ≤ N) (hn : nn = N % 18446744073709551616) (hu : up N R Y = true) (h1 : nn + 1 = 18446744073709551616) : heldF 0 true neg = sgn neg (rndFull N R Y) := by
  unfold rndFull
  rw [if_pos hu, heldF_true, sgn_big _ _ (by omega), sgn_big _ _ (by omega)]
theorem refd_no (neg ov : Bool) (N R Y nn : Int) (n0 : 0 ≤ N) (hn : nn = N % 18446744073709551616) (ho : ov = decide (18446744073709551616 ≤ N)) (hu : up N R Y = false) : heldF nn ov neg = sgn neg (rndFull N R Y) := by
  have hr : rndFull N R Y = N := if_neg (by rw [hu]; decide)
  rw [hr]
  by_cases c : 18446744073709551616 ≤ N
  · have : ov = true := by rw [ho]; exact decide_eq_true c
    subst this
    rw [heldF_true, sgn_big _ _ (by omega), sgn_big _ _ (by omega)]
  · have : ov = false := by rw [ho]; exact decide_eq_false c
    subst this
    rw [heldF_false]
    congr 1; omega
theorem up_key (N R Y nn : Int) (hn : nn = N % 18446744073709551616) : (Y < R * 2 ∧ up N R Y = true) ∨ (¬ Y < R * 2 ∧ (R * 2 == Y) = true ∧ (nn % 2 == 1) = true ∧ up N R Y = true) ∨
    (¬ Y < R * 2 ∧ (R * 2 == Y) = true ∧ (nn % 2 == 1) = false ∧ up N R Y = false) ∨ (¬ Y < R * 2 ∧ (R * 2 == Y) = false ∧ up N R Y = false) := by
  by_cases r1 : Y < R * 2
  · exact .inl ⟨r1, up_a (by omega)⟩
  · by_cases r2 : R * 2 = Y
    · by_cases r3 : nn % 2 = 1
      · exact .inr (.inl ⟨r1, beq_iff_eq.2 r2, beq_iff_eq.2 r3, up_b (by omega) (by omega)⟩)
      · exact .inr (.inr (.inl ⟨r1, beq_iff_eq.2 r2, beq_eq_false_iff_ne.2 r3, up_c (by omega) (by omega)⟩))
    · exact .inr (.inr (.inr ⟨r1, beq_eq_false_iff_ne.2 r2, up_d (by omega) (by omega)⟩))

set_option maxHeartbeats 8000000 in
theorem refdiv_any (x y : Int) (w : World) (hx1 : -9223372036854775808 ≤ x) (hx2 : x ≤ 9223372036854775807) (hy1 : -9223372036854775808 ≤ y) (hy2 : y ≤ 9223372036854775807) :
    Calls Try.prog 49 #[.int .i64 x, .int .i64 y] w fun e w' => e = .returned (.int .i64 (divF x y)) ∧ Below w.heap.size w w' := by
  by_cases cx : x = 0
  · subst cx
    have D : Hid (0 = divF 0 y) := rfl
    go_enter Try.func49, Try.ntmps49
    go_wp2_with fail
    go_ret
    exact ⟨ret_int D.out, Below.refl _ _⟩
  have nx : (x == 0) = false := by rw [beq_eq_false_iff_ne]; exact cx
  by_cases cy : y = 0
  · subst cy
    have D : Hid (heldF 0 true (decide (x < 0)) = divF x 0) := by
      show _ = _
      unfold divF
      rw [if_neg cx, if_pos rfl, heldF_true, sgn_big _ _ (by omega)]
      by_cases c : x < 0 <;> simp [c]
    clear cx
    go_enter Try.func49, Try.ntmps49
    go_wp2_with fail
    refine (held_any 0 true _ _ (by omega) (by omega)).mono ?_
    rintro e w' ⟨rfl, rfl⟩
    go_wp2_with fail
    go_ret
    exact ⟨ret_int D.out, Below.refl _ _⟩
  have ny : (y == 0) = false := by rw [beq_eq_false_iff_ne]; exact cy
  obtain ⟨mx0, mx1⟩ := mag_bounds x hx1 hx2
  obtain ⟨my0, my1⟩ := mag_bounds y hy1 hy2
  have my2 : 0 < mag y := by unfold mag; split <;> omega
  have C1 := Lib.hid (fun w => refmag_any x w hx1 hx2)
  have C2 := Lib.hid (fun w => refmag_any y w hy1 hy2)
  have D : Hid (divF x y = sgn (decide (x < 0) != decide (y < 0)) (rndFull (mag x * 4294967296 / mag y) (mag x * 4294967296 % mag y) (mag y))) := by
    show _ = _
    unfold divF
    rw [if_neg cx, if_neg cy]
  clear hx1 hx2 hy1 hy2 cx cy
  generalize mag x = X at *
  generalize mag y = Y at *
  go_enter Try.func49, Try.ntmps49
  go_wp2_with fail
  refine (C2.out _).mono ?_
  rintro e w' ⟨rfl, rfl⟩
  go_wp2_with fail
  go_loopw [8, 9, 10] (fun s8 s9 s10 wr => ∃ (n : Nat) (nn : Int) (ov : Bool), n ≤ 96 ∧ s10 = .int .i64 ((n : Int) - 1) ∧ s8 = .int .u64 nn ∧ s9 = .bool ov ∧
      Hid (nn = topBits (X * 4294967296) n / Y % 18446744073709551616) ∧ Hid (ov = decide (18446744073709551616 ≤ topBits (X * 4294967296) n / Y)) ∧
      w.heap.size + 1 ≤ wr.heap.size ∧ TwoAt wr w.heap.size 0 (topBits (X * 4294967296) n % Y) ∧ Below w.heap.size w wr) (fun _ _ s10 _ => (intOf s10 + 1).toNat)
  case atStart =>
    have z : topBits (X * 4294967296) 96 = 0 := topBits_top _ 96 (by omega) (by omega)
    refine ⟨96, _, _, by omega, rfl, rfl, rfl, ?_, ?_, by simp, ?_, (Below.refl _ _).alloc (Nat.le_refl _) _⟩
    · show _ = _; rw [z]; simp
    · show _ = _; rw [z]; simp
    · rw [z]
      simp only [Int.zero_emod]
      refine ⟨?_, ?_, ?_, ?_⟩ <;> go_simp
  case round =>
    obtain ⟨n, nn, ov, hn, rfl, rfl, rfl, h1, h2, hsz, hT, hb⟩ := hrel
    rcases n with _ | m
    · rw [topBits_zero] at h1 h2 hT
      have n0 : 0 ≤ X * 4294967296 / Y := Int.ediv_nonneg (by omega) (by omega)
      have r0 : 0 ≤ X * 4294967296 % Y := Int.emod_nonneg _ (by omega)
      have r1 : X * 4294967296 % Y < Y := Int.emod_lt_of_pos _ my2
      generalize X * 4294967296 / Y = N at *
      generalize X * 4294967296 % Y = R at *
      have bn : 0 ≤ nn := by have := h1.out; omega
      have bn' : nn < 18446744073709551616 := by have := h1.out; omega
      obtain ⟨c1, c2, c3, c4⟩ := hT
      have DD := Lib.hid (fun w => double_small R w r0 (by omega))
      have key := up_key N R Y nn h1.out
      rcases key with ⟨g1, hu⟩ | ⟨g1, g2, g3, hu⟩ | ⟨g1, g2, g3, hu⟩ | ⟨g1, g2, hu⟩
      all_goals have HU := Lib.hid hu; clear hu
      · by_cases c : nn + 1 < 18446744073709551616
        · have c1 : (nn + 1 == 0) = false := by rw [beq_eq_false_iff_ne]; omega
          go_wp2_with fail
          refine (DD.out _).mono ?_
          rintro e w1 ⟨rfl, hb1⟩
          go_wp2_with fail
          refine (held_any _ _ _ _ (by omega) (by omega)).mono ?_
          rintro e w' ⟨rfl, rfl⟩
          go_wp2_with fail
          go_ret
          exact ⟨ret_int (by rw [D.out]; exact refd_up _ _ N R Y nn n0 h1.out h2.out HU.out), (hb.trans (hb1.mono (by omega))).alloc (by have := hb1.size; omega) _⟩
        · have c2 : nn + 1 = 18446744073709551616 := by omega
          have c1 : IntKind.u64.wrap (nn + 1) = 0 := by rw [wrap64u, c2]; rfl
          have K := Lib.hid c2; clear c2
          go_wp2_with fail
          refine (DD.out _).mono ?_
          rintro e w1 ⟨rfl, hb1⟩
          go_wp2_with fail
          refine (held_any _ _ _ _ (by omega) (by omega)).mono ?_
          rintro e w' ⟨rfl, rfl⟩
          go_wp2_with fail
          go_ret
          exact ⟨ret_int (by rw [D.out]; exact refd_wrap _ N R Y nn n0 h1.out HU.out K.out), (hb.trans (hb1.mono (by omega))).alloc (by have := hb1.size; omega) _⟩
      · by_cases c : nn + 1 < 18446744073709551616
        · have c1 : (nn + 1 == 0) = false := by rw [beq_eq_false_iff_ne]; omega
          go_wp2_with fail
          refine (DD.out _).mono ?_
          rintro e w1 ⟨rfl, hb1⟩
          go_wp2_with fail
          refine (held_any _ _ _ _ (by omega) (by omega)).mono ?_
          rintro e w' ⟨rfl, rfl⟩
          go_wp2_with fail
          go_ret
          exact ⟨ret_int (by rw [D.out]; exact refd_up _ _ N R Y nn n0 h1.out h2.out HU.out), (hb.trans (hb1.mono (by omega))).alloc (by have := hb1.size; omega) _⟩
        · have c2 : nn + 1 = 18446744073709551616 := by omega
          have c1 : IntKind.u64.wrap (nn + 1) = 0 := by rw [wrap64u, c2]; rfl
          have K := Lib.hid c2; clear c2
          go_wp2_with fail
          refine (DD.out _).mono ?_
          rintro e w1 ⟨rfl, hb1⟩
          go_wp2_with fail
          refine (held_any _ _ _ _ (by omega) (by omega)).mono ?_
          rintro e w' ⟨rfl, rfl⟩
          go_wp2_with fail
          go_ret
          exact ⟨ret_int (by rw [D.out]; exact refd_wrap _ N R Y nn n0 h1.out HU.out K.out), (hb.trans (hb1.mono (by omega))).alloc (by have := hb1.size; omega) _⟩
      · go_wp2_with fail
        refine (DD.out _).mono ?_
        rintro e w1 ⟨rfl, hb1⟩
        go_wp2_with fail
        refine (held_any _ _ _ _ (by omega) (by omega)).mono ?_
        rintro e w' ⟨rfl, rfl⟩
        go_wp2_with fail
        go_ret
        exact ⟨ret_int (by rw [D.out]; exact refd_no _ _ N R Y nn n0 h1.out h2.out HU.out), (hb.trans (hb1.mono (by omega))).alloc (by have := hb1.size; omega) _⟩
      · go_wp2_with fail
        refine (DD.out _).mono ?_
        rintro e w1 ⟨rfl, hb1⟩
        go_wp2_with fail
        refine (held_any _ _ _ _ (by omega) (by omega)).mono ?_
        rintro e w' ⟨rfl, rfl⟩
        go_wp2_with fail
        go_ret
        exact ⟨ret_int (by rw [D.out]; exact refd_no _ _ N R Y nn n0 h1.out h2.out HU.out), (hb.trans (hb1.mono (by omega))).alloc (by have := hb1.size; omega) _⟩
    · have t0 : 0 ≤ topBits (X * 4294967296) (m + 1) % Y := Int.emod_nonneg _ (by omega)
      have t1 : topBits (X * 4294967296) (m + 1) % Y < Y := Int.emod_lt_of_pos _ my2
      have hs := topBits_split (X * 4294967296) m
      have n0 : 0 ≤ topBits (X * 4294967296) (m + 1) / Y := Int.ediv_nonneg (topBits_nonneg _ _ (by omega)) (by omega)
      obtain ⟨β, hβ⟩ : ∃ β, topBits (X * 4294967296) m % 2 = β := ⟨_, rfl⟩
      rw [hβ] at hs
      have b0 : 0 ≤ β := by omega
      have b1 : β ≤ 1 := by omega
      have hmore := div_step (by' := Y) (c := β) my2 hs
      have hless := div_stay (by' := Y) (c := β) my2 hs
      have bn : 0 ≤ nn := by have := h1.out; omega
      have bn' : nn < 18446744073709551616 := by have := h1.out; omega
      clear hs
      generalize topBits (X * 4294967296) (m + 1) / Y = N at *
      generalize topBits (X * 4294967296) (m + 1) % Y = R at *
      obtain ⟨N', hN'⟩ : ∃ N', topBits (X * 4294967296) m / Y = N' := ⟨_, rfl⟩
      obtain ⟨R', hR'⟩ : ∃ R', topBits (X * 4294967296) m % Y = R' := ⟨_, rfl⟩
      rw [hN', hR'] at hmore hless
      have HN := Lib.hid hN'; clear hN'
      have HR := Lib.hid hR'; clear hR'
      have hbit : (32 ≤ m ∧ ∃ k, m = k + 32 ∧ Hid (topBits X k % 2 = β)) ∨ (m < 32 ∧ β = 0) := by
        by_cases c : 32 ≤ m
        · obtain ⟨k, rfl⟩ : ∃ k, m = k + 32 := ⟨m - 32, by omega⟩
          exact .inl ⟨c, k, rfl, by rw [← tb_hi]; exact hβ⟩
        · exact .inr ⟨by omega, by rw [← hβ]; exact tb_lo X m (by omega)⟩
      clear hβ
      have Hm := Lib.hid hmore
      have Hl := Lib.hid hless
      clear hmore hless
      have DD := Lib.hid (fun w => double_small R w t0 (by omega))
      obtain ⟨c1, c2, c3, c4⟩ := hT
      rw [show ((m + 1 : Nat) : Int) - 1 = (m : Int) from by omega]
      go_wp2_with fail
      refine (DD.out _).mono ?_
      rintro e w1 ⟨rfl, hb1⟩
      have hz := hb1.size
      have X0 := TwoAt.below ⟨c1, c2, c3, c4⟩ hb1 (by omega)
      clear c1 c2 c3 c4
      have hx := X0
      obtain ⟨x1, x2, x3, x4⟩ := hx
      go_upto_region 14 with (fail)
      go_cut [44] (fun s44 wx => s44 = .bool (decide (β = 1)) ∧ wx = (w1.setCell ⟨w.heap.size, 0, none⟩ (.int .u64 0)).setCell ⟨w.heap.size, 1, none⟩ (.int .u64 (R * 2)))
      case first =>
        rcases hbit with ⟨hm, k, rfl, hk⟩ | ⟨hm, hk⟩
        · have e1 : bits .and .u64 (X / 2 ^ k) 1 = topBits X k % 2 := and1 _ (topBits_nonneg X k mx0) (by have := topBits_le X k mx0; unfold topBits at this; omega)
          rw [hk.out] at e1
          by_cases cβ : β = 1
          · have e2 : (bits .and .u64 (X / 2 ^ k) 1 == 1) = true := by rw [e1, cβ]; rfl
            have K := Lib.hid cβ; clear cβ e1
            go_wp2_with (refine (C1.out _).mono ?_; rintro e w' ⟨rfl, rfl⟩)
            go_meet
            exact ⟨by rw [K.out]; rfl, rfl⟩
          · have e3 : β = 0 := by omega
            have e2 : (bits .and .u64 (X / 2 ^ k) 1 == 1) = false := by rw [e1, e3]; rfl
            have K := Lib.hid e3; clear cβ e1 e3
            go_wp2_with (refine (C1.out _).mono ?_; rintro e w' ⟨rfl, rfl⟩)
            go_meet
            exact ⟨by rw [K.out]; rfl, rfl⟩
        · have K := Lib.hid hk; clear hk
          go_wp2_with fail
          go_meet
          exact ⟨by rw [K.out]; rfl, rfl⟩
      case rest =>
        obtain ⟨rfl, rfl⟩ := hcut
        have Y2 := X0.store 0 (R * 2)
        have hb2 := ((hb.trans (hb1.mono (by omega))).setCell (p := ⟨w.heap.size, 0, none⟩) (by simp) (.int .u64 0)).setCell (p := ⟨w.heap.size, 1, none⟩) (by simp) (.int .u64 (R * 2))
        have hsz2 : w.heap.size + 1 ≤ ((w1.setCell ⟨w.heap.size, 0, none⟩ (.int .u64 0)).setCell ⟨w.heap.size, 1, none⟩ (.int .u64 (R * 2))).heap.size := by simp; omega
        generalize (w1.setCell ⟨w.heap.size, 0, none⟩ (.int .u64 0)).setCell ⟨w.heap.size, 1, none⟩ (.int .u64 (R * 2)) = W2 at *
        clear X0 hb1 x1 x2 x3 x4 hz hsz hb hbit
        have hx := Y2
        obtain ⟨x1, x2, x3, x4⟩ := hx
        have hβ : β = 0 ∨ β = 1 := by omega
        rcases hβ with rfl | rfl
        · by_cases g1 : Y ≤ R * 2
          · by_cases g2 : 9223372036854775808 ≤ nn
            · have e5 : IntKind.u64.wrap (nn * 2) = nn * 2 - 18446744073709551616 := by rw [wrap64u]; omega
              have e6 : bits .or .u64 (nn * 2 - 18446744073709551616) 1 = nn * 2 - 18446744073709551616 + 1 := by
                have := or_one (nn - 9223372036854775808) (by omega) (by omega)
                rw [show (nn - 9223372036854775808) * 2 = nn * 2 - 18446744073709551616 from by omega] at this
                exact this
              go_wp2_with fail
              refine ⟨⟨m, _, _, by omega, rfl, rfl, rfl, ?_, ?_, ?_, ?_, ?_⟩, by (simp [intOf]; try omega)⟩
              · show _ = _
                rw [HN.out]
                have q1 := h1.out
                obtain ⟨p1, p2⟩ := Hm.out (by omega) (by omega)
                omega
              · show _ = _
                rw [HN.out]
                have q1 := h1.out
                obtain ⟨p1, p2⟩ := Hm.out (by omega) (by omega)
                first
                  | exact (decide_eq_true (by omega)).symm
                  | (rw [h2.out]; exact decide_eq_decide.2 (by omega))
              · first | omega | (simp; omega)
              · obtain ⟨p1, p2⟩ := Hm.out (by omega) (by omega)
                rw [HR.out, p2]
                first
                  | exact TwoAt.eq (Y2.put _) (by omega)
                  | exact TwoAt.eq ((Y2.put _).put _) (by omega)
                  | exact TwoAt.eq Y2 (by omega)
              · first
                  | exact hb2
                  | exact hb2.setCell (by simp) _
                  | exact (hb2.setCell (by simp) _).setCell (by simp) _
            · have e6 : bits .or .u64 (nn * 2) 1 = nn * 2 + 1 := or_one nn bn (by omega)
              go_wp2_with fail
              refine ⟨⟨m, _, _, by omega, rfl, rfl, rfl, ?_, ?_, ?_, ?_, ?_⟩, by (simp [intOf]; try omega)⟩
              · show _ = _
                rw [HN.out]
                have q1 := h1.out
                obtain ⟨p1, p2⟩ := Hm.out (by omega) (by omega)
                omega
              · show _ = _
                rw [HN.out]
                have q1 := h1.out
                obtain ⟨p1, p2⟩ := Hm.out (by omega) (by omega)
                first
                  | exact (decide_eq_true (by omega)).symm
                  | (rw [h2.out]; exact decide_eq_decide.2 (by omega))
              · first | omega | (simp; omega)
              · obtain ⟨p1, p2⟩ := Hm.out (by omega) (by omega)
                rw [HR.out, p2]
                first
                  | exact TwoAt.eq (Y2.put _) (by omega)
                  | exact TwoAt.eq ((Y2.put _).put _) (by omega)
                  | exact TwoAt.eq Y2 (by omega)
              · first
                  | exact hb2
                  | exact hb2.setCell (by simp) _
                  | exact (hb2.setCell (by simp) _).setCell (by simp) _
          · by_cases g2 : 9223372036854775808 ≤ nn
            · have e5 : IntKind.u64.wrap (nn * 2) = nn * 2 - 18446744073709551616 := by rw [wrap64u]; omega
              go_wp2_with fail
              refine ⟨⟨m, _, _, by omega, rfl, rfl, rfl, ?_, ?_, ?_, ?_, ?_⟩, by (simp [intOf]; try omega)⟩
              · show _ = _
                rw [HN.out]
                have q1 := h1.out
                obtain ⟨p1, p2⟩ := Hl.out (by omega) (by omega)
                omega
              · show _ = _
                rw [HN.out]
                have q1 := h1.out
                obtain ⟨p1, p2⟩ := Hl.out (by omega) (by omega)
                first
                  | exact (decide_eq_true (by omega)).symm
                  | (rw [h2.out]; exact decide_eq_decide.2 (by omega))
              · first | omega | (simp; omega)
              · obtain ⟨p1, p2⟩ := Hl.out (by omega) (by omega)
                rw [HR.out, p2]
                first
                  | exact TwoAt.eq (Y2.put _) (by omega)
                  | exact TwoAt.eq ((Y2.put _).put _) (by omega)
                  | exact TwoAt.eq Y2 (by omega)
              · first
                  | exact hb2
                  | exact hb2.setCell (by simp) _
                  | exact (hb2.setCell (by simp) _).setCell (by simp) _
            · go_wp2_with fail
              refine ⟨⟨m, _, _, by omega, rfl, rfl, rfl, ?_, ?_, ?_, ?_, ?_⟩, by (simp [intOf]; try omega)⟩
              · show _ = _
                rw [HN.out]
                have q1 := h1.out
                obtain ⟨p1, p2⟩ := Hl.out (by omega) (by omega)
                omega
              · show _ = _
                rw [HN.out]
                have q1 := h1.out
                obtain ⟨p1, p2⟩ := Hl.out (by omega) (by omega)
                first
                  | exact (decide_eq_true (by omega)).symm
                  | (rw [h2.out]; exact decide_eq_decide.2 (by omega))
              · first | omega | (simp; omega)
              · obtain ⟨p1, p2⟩ := Hl.out (by omega) (by omega)
                rw [HR.out, p2]
                first
                  | exact TwoAt.eq (Y2.put _) (by omega)
                  | exact TwoAt.eq ((Y2.put _).put _) (by omega)
                  | exact TwoAt.eq Y2 (by omega)
              · first
                  | exact hb2
                  | exact hb2.setCell (by simp) _
                  | exact (hb2.setCell (by simp) _).setCell (by simp) _
        · have ho : bits .or .u64 (R * 2) 1 = R * 2 + 1 := or_one R t0 (by omega)
          by_cases g1 : Y ≤ R * 2 + 1
          · by_cases g2 : 9223372036854775808 ≤ nn
            · have e5 : IntKind.u64.wrap (nn * 2) = nn * 2 - 18446744073709551616 := by rw [wrap64u]; omega
              have e6 : bits .or .u64 (nn * 2 - 18446744073709551616) 1 = nn * 2 - 18446744073709551616 + 1 := by
                have := or_one (nn - 9223372036854775808) (by omega) (by omega)
                rw [show (nn - 9223372036854775808) * 2 = nn * 2 - 18446744073709551616 from by omega] at this
                exact this
              go_wp2_with fail
              refine ⟨⟨m, _, _, by omega, rfl, rfl, rfl, ?_, ?_, ?_, ?_, ?_⟩, by (simp [intOf]; try omega)⟩
              · show _ = _
                rw [HN.out]
                have q1 := h1.out
                obtain ⟨p1, p2⟩ := Hm.out (by omega) (by omega)
                omega
              · show _ = _
                rw [HN.out]
                have q1 := h1.out
                obtain ⟨p1, p2⟩ := Hm.out (by omega) (by omega)
                first
                  | exact (decide_eq_true (by omega)).symm
                  | (rw [h2.out]; exact decide_eq_decide.2 (by omega))
              · first | omega | (simp; omega)
              · obtain ⟨p1, p2⟩ := Hm.out (by omega) (by omega)
                rw [HR.out, p2]
                first
                  | exact TwoAt.eq (Y2.put _) (by omega)
                  | exact TwoAt.eq ((Y2.put _).put _) (by omega)
                  | exact TwoAt.eq Y2 (by omega)
              · first
                  | exact hb2
                  | exact hb2.setCell (by simp) _
                  | exact (hb2.setCell (by simp) _).setCell (by simp) _
            · have e6 : bits .or .u64 (nn * 2) 1 = nn * 2 + 1 := or_one nn bn (by omega)
              go_wp2_with fail
              refine ⟨⟨m, _, _, by omega, rfl, rfl, rfl, ?_, ?_, ?_, ?_, ?_⟩, by (simp [intOf]; try omega)⟩
              · show _ = _
                rw [HN.out]
                have q1 := h1.out
                obtain ⟨p1, p2⟩ := Hm.out (by omega) (by omega)
                omega
              · show _ = _
                rw [HN.out]
                have q1 := h1.out
                obtain ⟨p1, p2⟩ := Hm.out (by omega) (by omega)
                first
                  | exact (decide_eq_true (by omega)).symm
                  | (rw [h2.out]; exact decide_eq_decide.2 (by omega))
              · first | omega | (simp; omega)
              · obtain ⟨p1, p2⟩ := Hm.out (by omega) (by omega)
                rw [HR.out, p2]
                first
                  | exact TwoAt.eq (Y2.put _) (by omega)
                  | exact TwoAt.eq ((Y2.put _).put _) (by omega)
                  | exact TwoAt.eq Y2 (by omega)
              · first
                  | exact hb2
                  | exact hb2.setCell (by simp) _
                  | exact (hb2.setCell (by simp) _).setCell (by simp) _
          · by_cases g2 : 9223372036854775808 ≤ nn
            · have e5 : IntKind.u64.wrap (nn * 2) = nn * 2 - 18446744073709551616 := by rw [wrap64u]; omega
              go_wp2_with fail
              refine ⟨⟨m, _, _, by omega, rfl, rfl, rfl, ?_, ?_, ?_, ?_, ?_⟩, by (simp [intOf]; try omega)⟩
              · show _ = _
                rw [HN.out]
                have q1 := h1.out
                obtain ⟨p1, p2⟩ := Hl.out (by omega) (by omega)
                omega
              · show _ = _
                rw [HN.out]
                have q1 := h1.out
                obtain ⟨p1, p2⟩ := Hl.out (by omega) (by omega)
                first
                  | exact (decide_eq_true (by omega)).symm
                  | (rw [h2.out]; exact decide_eq_decide.2 (by omega))
              · first | omega | (simp; omega)
              · obtain ⟨p1, p2⟩ := Hl.out (by omega) (by omega)
                rw [HR.out, p2]
                first
                  | exact TwoAt.eq (Y2.put _) (by omega)
                  | exact TwoAt.eq ((Y2.put _).put _) (by omega)
                  | exact TwoAt.eq Y2 (by omega)
              · first
                  | exact hb2
                  | exact hb2.setCell (by simp) _
                  | exact (hb2.setCell (by simp) _).setCell (by simp) _
            · go_wp2_with fail
              refine ⟨⟨m, _, _, by omega, rfl, rfl, rfl, ?_, ?_, ?_, ?_, ?_⟩, by (simp [intOf]; try omega)⟩
              · show _ = _
                rw [HN.out]
                have q1 := h1.out
                obtain ⟨p1, p2⟩ := Hl.out (by omega) (by omega)
                omega
              · show _ = _
                rw [HN.out]
                have q1 := h1.out
                obtain ⟨p1, p2⟩ := Hl.out (by omega) (by omega)
                first
                  | exact (decide_eq_true (by omega)).symm
                  | (rw [h2.out]; exact decide_eq_decide.2 (by omega))
              · first | omega | (simp; omega)
              · obtain ⟨p1, p2⟩ := Hl.out (by omega) (by omega)
                rw [HR.out, p2]
                first
                  | exact TwoAt.eq (Y2.put _) (by omega)
                  | exact TwoAt.eq ((Y2.put _).put _) (by omega)
                  | exact TwoAt.eq Y2 (by omega)
              · first
                  | exact hb2
                  | exact hb2.setCell (by simp) _
                  | exact (hb2.setCell (by simp) _).setCell (by simp) _
end Go.Proofs.Ytdimpgojamhakaa

/-
  Contracts of the statements' file of layer 8: cells, same, right; the reference's Div.
-/
namespace Go.Proofs.Ytdimpgojamhakaa
open Go.RowKit
set_option linter.unusedVariables false
set_option linter.unusedSimpArgs false

set_option maxRecDepth 100000 in
set_option maxHeartbeats 2000000 in
theorem cells8_any (ca : Option Addr) (cl cc : Nat) (cs : List Int) (wA : World) (hc : IntsAt wA ca cl cs) (hl : cl ≤ 1000) :
    Calls Try.prog 16 #[.slice ca cl cc] wA fun e w' => ∃ A cap, e = .returned (.slice A cl cap) ∧ w'.ownsRow wA.heap.size 2 1 (.slice A cl cap) cl (cs.map (Value.int .i64)) ∧ Below wA.heap.size wA w' := by
  have HC := Lib.hid (fun w1 (hb : Below wA.heap.size wA w1) => hc.kept hb)
  have hcl := Lib.hid hc.1
  obtain ⟨i0, hi, hz0, hz1, hz2⟩ := info_parts i64Info
  clear hc
  go_enter Try.func16, Try.ntmps16
  go_wp2_with fail
  go_loopw [3, 8] (fun t i wr => ∃ j : Nat, j ≤ cl ∧ i = .int .i64 j ∧ Hid (wr.ownsRow wA.heap.size 2 1 t j ((cs.take j).map (Value.int .i64))) ∧ Hid (Below wA.heap.size wA wr)) (fun _ i _ => cl - (intOf i).toNat)
  case atStart => exact ⟨0, Nat.zero_le _, rfl, Lib.hid (by rw [List.take_zero]; exact World.ownsRow_nil _ _ _ _), Lib.hid (Below.refl _ _)⟩
  case round =>
    obtain ⟨j, hj, rfl, hrow, hbr⟩ := hrel
    by_cases hlt : j < cl
    · obtain ⟨b, off, rfl, hcell⟩ : ∃ b off, ca = some ⟨b, off, none⟩ ∧ wr.cell? ⟨b, off + j, none⟩ = some (.int .i64 (cs.getD j 0)) := by
        rcases (HC.out wr hbr.out).2.2.2 with h5 | ⟨b, off, ha, hcx⟩
        · omega
        · exact ⟨b, off, ha, hcx j hlt⟩
      have hst : cs.take (j + 1) = cs.take j ++ [cs.getD j 0] := by
        rw [List.take_add_one]
        simp [List.getD, List.getElem?_eq_getElem (show j < cs.length by rw [hcl.out]; exact hlt)]
      obtain ⟨x, hx⟩ : ∃ x, cs.getD j 0 = x := ⟨_, rfl⟩
      rw [hx] at hcell hst
      obtain ⟨L0, hL0⟩ : ∃ L, (cs.take j).map (Value.int .i64) = L := ⟨_, rfl⟩
      have hrw := hrow.out.alloc (.cells #[.int .i64 x] 2)
      rw [hL0] at hrw
      have HL0 := Lib.hid hL0
      have hnew := box_cell wr x 2
      have hone : ∀ u ∈ [Value.int .i64 x], u.oneCell' = true := by intro u hu; simp at hu; subst hu; rfl
      have hb6 : j + 1 ≤ maxLen := by unfold maxLen; omega
      have hb7 : (j + 1) * 8 ≤ 140737488355328 := by omega
      have hb8 : wA.heap.size ≤ (wr.alloc (.cells #[.int .i64 x] 2)).heap.size := by have := hbr.out.size; simp; omega
      have HST := Lib.hid hst
      clear hst hx hL0
      go_wp2_with (at_builtin; refine wpList_append_own _ rfl _ _ 41 rfl wA.heap.size 2 i0 (.int .i64 0) 1 8 Try.underlying41 hi hz0 hz1 hz2 rfl (by decide) _ j _ rfl hrw ⟨wr.heap.size, 0, none⟩ 1 1 [.int .i64 x] rfl rfl hnew hone hb6 hb7 hb8 ?_)
      intro v' w5 hown hgrow hnil
      rw [← HL0.out, ← snoc_int, ← HST.out] at hown
      have hown' := Lib.hid hown
      have hb5 := Lib.hid ((hbr.out.alloc hbr.out.size (.cells #[.int .i64 x] 2)).grown hgrow hb8 (fun q' hq' => (hrow.out.lt q' hq').1))
      clear hown hgrow hnil hcell hnew hone hb6 hb7 hb8 hrw
      go_wp2_with fail
      go_roundw
      case rel => exact ⟨j + 1, by omega, by go_num, hown', hb5⟩
      case measure => (simp [intOf]; try omega)
    · obtain rfl : j = cl := by omega
      rw [List.take_of_length_le (by rw [hcl.out]; omega)] at hrow
      have hb := Lib.hid hbr.out
      have hq' := Lib.hid hrow.out
      rcases Joins.ownsRow_forms hrow.out with ⟨e1, e2⟩ | ⟨g, c, e1⟩
      · subst e1
        subst e2
        clear hrow
        go_wp2_with fail
        go_ret
        exact ⟨_, _, rfl, hq'.out, hb.out⟩
      · subst e1
        clear hrow
        go_wp2_with fail
        go_ret
        exact ⟨_, _, rfl, hq'.out, hb.out⟩
set_option maxHeartbeats 1000000 in
theorem rright8_any (sa : Option Addr) (sl sc : Nat) (ss : List Int) (ca : Option Addr) (cl cc : Nat) (w : World) (h : IntsAt w sa sl ss) (hl : cl ≤ 9223372036854775807) :
    Calls Try.prog 20 #[.agg #[.slice sa sl sc, .slice ca cl cc]] w fun e w' => e = .returned (.bool (rightT ss cl)) ∧ Below w.heap.size w w' := by
  obtain ⟨wA, hwA, J1, z1, n1⟩ := grid_box w (.slice sa sl sc) (.slice ca cl cc)
  obtain ⟨j0, j1, -, -⟩ := J1.out.see
  have hd := fun n => (h.kept z1.out).kept (below_drewN' (Below.refl _ _) n)
  have C := fun n => flipW (refshape_any sa sl sc ss (wA.drewN n) (hd n))
  have D := fun hr n => flipW (refsize_any sa sl sc ss (wA.drewN n) (hd n) hr)
  clear h hd
  cases b : rightS ss
  · rw [b] at C
    have C1 := Lib.hid C
    have E := Lib.hid (rightT_no (n := cl) b)
    clear C b D
    go_enter Try.func20, Try.ntmps20
    go_upto_region 1 with (fail)
    rw [hwA.out]
    go_quiet ((go_at_call 28; exact Calls.quiet_of_same (C1.out _)))
    go_wp2_with fail
    go_ret
    exact ⟨ret_bool E.out, below_drewN' z1.out _⟩
  · rw [b] at C
    have C1 := Lib.hid C
    have D1 := D b
    have E1 := Lib.hid (fun h => rightT_yes (n := cl) b h)
    have E2 := Lib.hid (fun h => rightT_len (ss := ss) (n := cl) h)
    clear C b D
    obtain ⟨x, hx⟩ : ∃ x, prodI ss = x := ⟨_, rfl⟩
    rw [hx] at D1 E1 E2
    have D2 := Lib.hid D1
    clear hx D1
    have E : Hid (((cl : Int) == x) = rightT ss cl) := Lib.hid (by
      by_cases c : (cl : Int) = x
      · rw [← E1.out c]; simp [c]
      · rw [← E2.out c]; simp [c])
    clear E1 E2
    go_enter Try.func20, Try.ntmps20
    go_upto_region 1 with (fail)
    rw [hwA.out]
    go_quiet ((first | (go_at_call 28; exact Calls.quiet_of_same (C1.out _)) | (go_at_call 39; exact Calls.quiet_of_same (D2.out _))))
    go_wp2_with fail
    go_ret
    exact ⟨ret_bool E.out, below_drewN' z1.out _⟩


set_option maxRecDepth 100000 in
set_option maxHeartbeats 2000000 in
theorem same8_any (ca : Option Addr) (y cc : Nat) (cs : List Int) (la : Option Addr) (lc : Nat) (wB : World) (h : IntsAt wB ca y cs) (hl : IntsAt wB la y cs) :
    Calls Try.prog 18 #[.slice ca y cc, .slice la y lc] wB fun e w' => e = .returned (.bool true) ∧ ∃ m, w' = wB.drewN m := by
  have HA := Lib.hid h
  have HB := Lib.hid hl
  have hl6 := h.2.1
  clear h hl
  go_enter Try.func18, Try.ntmps18
  go_wp2_with fail
  go_loopw [13] (fun i wr => ∃ j : Nat, j ≤ y ∧ i = .int .i64 j ∧ Hid (∃ m, wr = wB.drewN m)) (fun i _ => y - (intOf i).toNat)
  case atStart => exact ⟨0, Nat.zero_le _, rfl, Lib.hid ⟨0, rfl⟩⟩
  case round =>
    obtain ⟨j, hj, rfl, hw⟩ := hrel
    obtain ⟨m', hm⟩ := hw.out
    have kW : Below wB.heap.size wB wr := by rw [hm]; exact below_drewN' (Below.refl _ _) m'
    by_cases hlt : j < y
    · obtain ⟨b1, o1, q1, e1⟩ : ∃ b1 off, ca = some ⟨b1, off, none⟩ ∧ wr.cell? ⟨b1, off + j, none⟩ = some (.int .i64 (cs.getD j 0)) := by
        rcases (HA.out.kept kW).2.2.2 with h4 | ⟨b1, off, ha, hcc⟩
        · omega
        · exact ⟨b1, off, ha, hcc j hlt⟩
      obtain ⟨b2, o2, q2, e2⟩ : ∃ b1 off, la = some ⟨b1, off, none⟩ ∧ wr.cell? ⟨b1, off + j, none⟩ = some (.int .i64 (cs.getD j 0)) := by
        rcases (HB.out.kept kW).2.2.2 with h4 | ⟨b1, off, ha, hcc⟩
        · omega
        · exact ⟨b1, off, ha, hcc j hlt⟩
      have hm' := Lib.hid hm
      subst q1
      subst q2
      obtain ⟨x, hx⟩ : ∃ x, cs.getD j 0 = x := ⟨_, rfl⟩
      rw [hx] at e1 e2
      clear hm hw kW hx
      go_wp2_with fail
      go_quiet (fail)
      go_wp2_with fail
      go_roundw
      case rel => exact ⟨j + 1, by omega, by go_num, Lib.hid ⟨m' + nq, by rw [hm'.out, World.drewN_drewN]⟩⟩
      case measure => (simp [intOf]; try omega)
    · have hm' := Lib.hid hm
      clear hm hw kW
      go_wp2_with fail
      go_ret
      exact ⟨rfl, m', hm'.out⟩

set_option maxRecDepth 100000 in
set_option maxHeartbeats 1000000 in
theorem refdiv8_any (x : Int) (wd : Nat) (w : World) (hx1 : -9223372036854775808 ≤ x) (hx2 : x ≤ 9223372036854775807) (hw : wd ≤ 1024) :
    Calls Try.prog 34 #[.int .i64 x, .int .i64 wd] w fun e w' => e = .returned (.int .i64 (divF x ((wd : Int) * 4294967296))) ∧ Below w.heap.size w w' := by
  have D0 := refdiv_any x ((wd : Int) * 4294967296) w hx1 hx2 (by omega) (by omega)
  obtain ⟨r, hr⟩ : ∃ r, divF x ((wd : Int) * 4294967296) = r := ⟨_, rfl⟩
  rw [hr] at D0 ⊢
  have D := Lib.hid D0
  clear D0 hr hx1 hx2
  go_enter Try.func34, Try.ntmps34
  go_wp2_with fail
  refine D.out.mono ?_
  rintro e w' ⟨rfl, hb⟩
  go_wp2_with fail
  go_ret
  exact ⟨rfl, hb⟩
end Go.Proofs.Ytdimpgojamhakaa

/-
  A tensor as an argument.
-/
namespace Go.Proofs.Ytdimpgojamhakaa
open Go.RowKit Go.ChangeShapes Go.WideShapes Go.Deep
set_option linter.unusedVariables false
set_option linter.unusedSimpArgs false

set_option maxRecDepth 100000 in
theorem grid_arg {H : Type} {enc : TypeId × Value → H} {w : World} {base : Nat} {spare : Nat → Bool} {held : Bool} {r : Reach} {b0 : Nat} {v : Value} {d : DataW H} {p : List MemPlace} (hv : Value.okWide Try.prog w r b0 34 v)
    (h : DataW.Trod enc Try.prog w base spare held 34 v d p) (hw : ∀ n ∈ d.weights Try.prog 34, n ≤ reachBytes) :
    ∃ t : TV, v = .agg #[.slice (TV.sa t) (TV.sl t) (TV.sc t), .slice (TV.ca t) (TV.cl t) (TV.cc t)] ∧ t.At w ∧ t.Cap := by
  obtain ⟨⟨l⟩, rfl, hsz⟩ := okWide_struct Try.underlying34 hv
  obtain ⟨fuel, hf⟩ := h
  replace hsz : l.length = Try.prog.cellsOf 34 := hsz
  rw [gcellsG] at hsz
  match l, hsz with
  | [c0, c1], _ =>
    obtain ⟨t, e0, e1, A, C⟩ := grid_one2 (x := (d, p)) hf hw
    subst e0 e1
    exact ⟨t, rfl, A, C⟩
section
variable {H : Type} {enc : TypeId × Value → H} {w : World} {base : Nat} {spare : Nat → Bool} {held : Bool}
theorem grid_sized3 {n : Nat} {v0 v1 : Value} {d0 d1 : DataW H} {p0 p1 : List MemPlace} (h0 : DataW.trod enc Try.prog w base spare held n 23 [v0] = some (d0, p0)) (h1 : DataW.trod enc Try.prog w base spare held n 32 [v1] = some (d1, p1))
    (w0 : ∀ n ∈ d0.weights Try.prog 23, n ≤ reachBytes) (w1 : ∀ n ∈ d1.weights Try.prog 32, n ≤ reachBytes) :
    ∃ t : TV, v0 = .slice t.sa t.sl t.sc ∧ v1 = .slice t.ca t.cl t.cc ∧ t.At w ∧ t.Cap ∧ t.CapS := by
  obtain ⟨sa, sl, sc, ss, rfl, i0, l0, k1, k2⟩ := field_ints_sized Try.underlying23 Try.underlying3 (by kernel_rfl) gbytesI h0 w0
  obtain ⟨ca, cl, cc, cs, rfl, i1, l1, m1, m2⟩ := field_ints_sized Try.underlying32 Try.underlying49 (by kernel_rfl) gbytesF h1 w1
  exact ⟨⟨sa, sl, sc, ss, ca, cl, cc, cs⟩, rfl, rfl, ⟨i0, i1, l0, l1⟩, ⟨m1, m2⟩, k1, k2⟩
theorem grid_one3 {fuel : Nat} {c0 c1 : Value} {x : DataW H × List MemPlace} (h : DataW.trod enc Try.prog w base spare held fuel 34 [c0, c1] = some x) (hw : ∀ n ∈ x.1.weights Try.prog 34, n ≤ reachBytes) :
    ∃ t : TV, c0 = .slice t.sa t.sl t.sc ∧ c1 = .slice t.ca t.cl t.cc ∧ t.At w ∧ t.Cap ∧ t.CapS := by
  obtain ⟨xs, n, -, hxy, -, hxl, hat⟩ := DataW.trod_struct Try.underlying34 h
  match xs, hxl with
  | [(d0, p0), (d1, p1)], _ =>
    have h0 := hat 0 _ rfl
    have h1 := hat 1 _ rfl
    have g0 : DataW.trod enc Try.prog w base spare held n 23 (([c0, c1].drop 0).take (Try.prog.cellsOf 23)) = some (d0, p0) := h0
    have g1 : DataW.trod enc Try.prog w base spare held n 32 (([c0, c1].drop 1).take (Try.prog.cellsOf 32)) = some (d1, p1) := h1
    rw [gcellsS] at g0
    rw [gcellsF] at g1
    have ex : x.1 = .agg [d0, d1] := by rw [hxy]; rfl
    rw [ex] at hw
    exact grid_sized3 (n := n) (v0 := c0) (v1 := c1) g0 g1 (fun n hn => hw n (agg_weights (.inl hn))) (fun n hn => hw n (agg_weights (.inr hn)))

theorem gcellsI : Try.prog.cellsOf 3 = 1 := by kernel_rfl
/-- A shape as an argument: a tensor's value without cells. -/
theorem shape_tv {a : Option Addr} {l c : Nat} {zs : List Int} (i : IntsAt w a l zs) (l0 : l ≤ 17592186044416) : TV.At ⟨a, l, c, zs, none, 0, 0, []⟩ w := ⟨i, IntsAt.nil _ _, l0, Nat.zero_le _⟩
set_option maxRecDepth 100000 in
theorem shape_arg {r : Reach} {b0 : Nat} {v : Value} {d : DataW H} {p : List MemPlace} (hv : Value.okWide Try.prog w r b0 23 v)
    (h : DataW.Trod enc Try.prog w base spare held 23 v d p) (hw : ∀ n ∈ d.weights Try.prog 23, n ≤ reachBytes) :
    ∃ t : TV, v = .slice (TV.sa t) (TV.sl t) (TV.sc t) ∧ (t.At w ∧ t.CapS) := by
  obtain ⟨a, l, c, rfl⟩ := okWide_slice Try.underlying23 hv
  obtain ⟨fuel, hf⟩ := h
  obtain ⟨sa, sl, sc, ss, e, i0, l0, k1, k2⟩ := field_ints_sized (x := (d, p)) (c := .slice a l c) Try.underlying23 Try.underlying3 (by kernel_rfl) gbytesI hf hw
  exact ⟨⟨sa, sl, sc, ss, none, 0, 0, []⟩, e, shape_tv i0 l0, k1, k2⟩
end
end Go.Proofs.Ytdimpgojamhakaa

