/-
  Contracts of package safe: Max, Sub, Share.
-/
import Derived.Test.YtofekhkggojpnaaSafeF
namespace Go.Proofs.Ytofekhkggojpnaa
open Go.RowKit
set_option linter.unusedVariables false
set_option linter.unusedSimpArgs false

theorem maxI_bounds {l : List Int} (h : Fits l) : 0 ≤ maxI l ∧ maxI l ≤ 9223372036854775807 := by
  have g : ∀ (l : List Int) (a : Int), 0 ≤ a → a ≤ 9223372036854775807 → Fits l → 0 ≤ l.foldl max a ∧ l.foldl max a ≤ 9223372036854775807 := by
    intro l
    induction l with
    | nil => intro a h1 h2 _; exact ⟨h1, h2⟩
    | cons x l ih =>
      intro a h1 h2 hf
      have hx := hf x (List.mem_cons_self ..)
      exact ih (max a x) (by omega) (by omega) (fun n hn => hf n (List.mem_cons_of_mem _ hn))
  exact g l 0 (by omega) (by omega) h

theorem Fits.take {l : List Int} (h : Fits l) (k : Nat) : Fits (l.take k) := fun n hn => h n (List.mem_of_mem_take hn)

set_option maxHeartbeats 1000000 in
theorem safemax_any (a : Option Addr) (len cap : Nat) (zs : List Int) (w : World) (h : IntsAt w a len zs) :
    Calls Try.prog 16 #[.slice a len cap] w fun e w' => e = .returned (.int .i64 (maxI zs)) ∧ w = w' := by
  obtain ⟨h1, h2, h3, h4⟩ := h
  go_enter Try.func16, Try.ntmps16
  go_wp2_with fail
  go_loop [3, 8] (fun t i => ∃ k : Nat, k ≤ len ∧ i = .int .i64 k ∧ t = .int .i64 (maxI (zs.take k))) (fun _ i => len - (intOf i).toNat)
  case atStart => exact ⟨0, Nat.zero_le _, rfl, rfl⟩
  case round =>
    obtain ⟨k, hk, rfl, rfl⟩ := hrel
    by_cases hlt : k < len
    · rcases h4 with h4 | ⟨b, off, rfl, hc⟩
      · omega
      · have hcell := hc k hlt
        clear hc
        have hstep := maxI_step zs k (by omega)
        generalize zs.getD k 0 = x at *
        generalize maxI (zs.take k) = t at *
        have hs := Lib.hid hstep
        clear h1 h3 hstep
        go_wp2_with fail
        go_round
        case rel => exact ⟨k + 1, by omega, by go_num, by rw [hs.out]; exact congrArg (Value.int .i64) (by split <;> omega)⟩
        case measure => (simp [intOf]; try omega)
    · have e : Hid (maxI (zs.take k) = maxI zs) := by show _ = _; rw [List.take_of_length_le (by omega)]
      generalize maxI (zs.take k) = t at *
      clear h1 h3 h4
      go_wp2_with fail
      go_ret
      exact ⟨ret_int e.out, rfl⟩

/-- What Sub tells. -/
def subN (a b : Int) : Int := if inR 0 1099511627776 a = true ∧ inR 0 1099511627776 b = true ∧ b ≤ a then a - b else 0
def subE (a b : Int) : Int := if inR 0 1099511627776 a = true ∧ inR 0 1099511627776 b = true then (if b ≤ a then 0 else 17) else 11
/-- What Share tells. -/
def shareQ (a b : Int) : Int := if inR 0 1099511627776 a = true ∧ inR 1 1099511627776 b = true then a / b else 0
def shareR (a b : Int) : Int := if inR 0 1099511627776 a = true ∧ inR 1 1099511627776 b = true then a % b else 0
def shareE (a b : Int) : Int := if inR 0 1099511627776 a = true ∧ inR 1 1099511627776 b = true then 0 else 11

set_option maxHeartbeats 1000000 in
theorem safesub_any (a b : Int) (w : World) :
    Calls Try.prog 14 #[.int .i64 a, .int .i64 b] w fun e w' => e = .returned (.tuple #[.int .i64 (subN a b), .int .i64 (subE a b)]) ∧ Below w.heap.size w w' := by
  have c0 := right_any a w
  cases c : inR 0 1099511627776 a
  · rw [c] at c0
    have C := Lib.hid c0
    have E := Lib.hid (show 0 = subN a b ∧ 11 = subE a b by simp [subN, subE, c])
    clear c c0
    go_enter Try.func14, Try.ntmps14
    go_wp2_with fail
    refine C.out.mono ?_
    rintro e w1 ⟨rfl, hb⟩
    go_wp2_with fail
    go_ret2
    exact ⟨ret_ints2 E.out.1 E.out.2, hb⟩
  · rw [c] at c0
    have C := Lib.hid c0
    have d0 := fun w => right_any b w
    cases d : inR 0 1099511627776 b
    · rw [d] at d0
      have D := Lib.hid d0
      have E := Lib.hid (show 0 = subN a b ∧ 11 = subE a b by simp [subN, subE, c, d])
      clear c c0 d d0
      go_enter Try.func14, Try.ntmps14
      go_wp2_with fail
      refine C.out.mono ?_
      rintro e w1 ⟨rfl, hb⟩
      go_wp2_with fail
      refine (D.out _).mono ?_
      rintro e w2 ⟨rfl, hb2⟩
      go_wp2_with fail
      go_ret2
      exact ⟨ret_ints2 E.out.1 E.out.2, hb.trans (hb2.mono hb.size)⟩
    · rw [d] at d0
      have D := Lib.hid d0
      obtain ⟨x1, x2⟩ := inR_bounds c
      obtain ⟨y1, y2⟩ := inR_bounds d
      by_cases hlt : a < b
      · have E := Lib.hid (show 0 = subN a b ∧ 17 = subE a b by simp [subN, subE, c, d]; omega)
        clear c c0 d d0
        go_enter Try.func14, Try.ntmps14
        go_wp2_with fail
        refine C.out.mono ?_
        rintro e w1 ⟨rfl, hb⟩
        go_wp2_with fail
        refine (D.out _).mono ?_
        rintro e w2 ⟨rfl, hb2⟩
        go_wp2_with fail
        go_ret2
        exact ⟨ret_ints2 E.out.1 E.out.2, hb.trans (hb2.mono hb.size)⟩
      · have E := Lib.hid (show a - b = subN a b ∧ 0 = subE a b by
          have : b ≤ a := by omega
          simp [subN, subE, c, d, this])
        clear c c0 d d0
        go_enter Try.func14, Try.ntmps14
        go_wp2_with fail
        refine C.out.mono ?_
        rintro e w1 ⟨rfl, hb⟩
        go_wp2_with fail
        refine (D.out _).mono ?_
        rintro e w2 ⟨rfl, hb2⟩
        go_wp2_with fail
        go_ret2
        exact ⟨ret_ints2 E.out.1 E.out.2, hb.trans (hb2.mono hb.size)⟩

theorem ret_ints3 {k k' k'' : IntKind} {a b c d x y : Int} (h : a = b) (h' : c = d) (h'' : x = y) : Ending.returned (.tuple #[.int k a, .int k' c, .int k'' x]) = .returned (.tuple #[.int k b, .int k' d, .int k'' y]) := by rw [h, h', h'']

set_option maxHeartbeats 2000000 in
theorem safeshare_any (a b : Int) (w : World) :
    Calls Try.prog 15 #[.int .i64 a, .int .i64 b] w fun e w' => e = .returned (.tuple #[.int .i64 (shareQ a b), .int .i64 (shareR a b), .int .i64 (shareE a b)]) ∧ Below w.heap.size w w' := by
  have c0 := right_any a w
  cases c : inR 0 1099511627776 a
  · rw [c] at c0
    have C := Lib.hid c0
    have E := Lib.hid (show 0 = shareQ a b ∧ 0 = shareR a b ∧ 11 = shareE a b by simp [shareQ, shareR, shareE, c])
    clear c c0
    go_enter Try.func15, Try.ntmps15
    go_wp2_with fail
    refine C.out.mono ?_
    rintro e w1 ⟨rfl, hb⟩
    go_wp2_with fail
    go_ret3
    exact ⟨ret_ints3 E.out.1 E.out.2.1 E.out.2.2, hb⟩
  · rw [c] at c0
    have C := Lib.hid c0
    cases d : inR 1 1099511627776 b
    · have E := Lib.hid (show 0 = shareQ a b ∧ 0 = shareR a b ∧ 11 = shareE a b by simp [shareQ, shareR, shareE, c, d])
      have d' := Lib.hid d
      clear c c0 d
      go_enter Try.func15, Try.ntmps15
      go_wp2_with fail
      refine C.out.mono ?_
      rintro e w1 ⟨rfl, hb⟩
      have D := Lib.hid (within_any 1 1099511627776 w1)
      go_wp2_with fail
      refine D.out.mono ?_
      rintro e w2 ⟨rfl, hp, hq, hb2, -⟩
      have f0 := within1_any 1 1099511627776 b _ _ w2 hp hq
      rw [d'.out] at f0
      have F := Lib.hid f0
      clear hp hq f0
      go_wp2_with fail
      refine F.out.mono ?_
      rintro e w2 ⟨rfl, rfl⟩
      go_wp2_with fail
      go_ret3
      exact ⟨ret_ints3 E.out.1 E.out.2.1 E.out.2.2, hb.trans (hb2.mono hb.size)⟩
    · have E := Lib.hid (show a / b = shareQ a b ∧ a % b = shareR a b ∧ 0 = shareE a b by simp [shareQ, shareR, shareE, c, d])
      obtain ⟨x1, x2⟩ := inR_bounds c
      obtain ⟨y1, y2⟩ := inR_bounds d
      have d' := Lib.hid d
      clear c c0 d
      go_enter Try.func15, Try.ntmps15
      go_wp2_with fail
      refine C.out.mono ?_
      rintro e w1 ⟨rfl, hb⟩
      have D := Lib.hid (within_any 1 1099511627776 w1)
      go_wp2_with fail
      refine D.out.mono ?_
      rintro e w2 ⟨rfl, hp, hq, hb2, -⟩
      have f0 := within1_any 1 1099511627776 b _ _ w2 hp hq
      rw [d'.out] at f0
      have F := Lib.hid f0
      clear hp hq f0
      go_wp2_with fail
      refine F.out.mono ?_
      rintro e w2 ⟨rfl, rfl⟩
      go_wp2_with fail
      go_quiet (fail)
      go_wp2_with fail
      go_ret3
      exact ⟨ret_ints3 E.out.1 E.out.2.1 E.out.2.2, below_drewN' (hb.trans (hb2.mono hb.size)) _⟩

end Go.Proofs.Ytofekhkggojpnaa
