/-
  Contracts of package shape: with, hasDimension, Equal, Window; of its reference: Same.
-/
import Derived.Test.YtlpecdfiagklpaaShapeV
namespace Go.Proofs.Ytlpecdfiagklpaa
open Go.RowKit
set_option linter.unusedVariables false
set_option linter.unusedSimpArgs false

set_option maxHeartbeats 400000 in
theorem equal_any (a1 : Option Addr) (l1 c1 : Nat) (xs : List Int) (a2 : Option Addr) (l2 c2 : Nat) (ys : List Int) (w : World) (h : IntsAt w a1 l1 xs) (h' : IntsAt w a2 l2 ys) :
    Calls Try.prog 44 #[.slice a1 l1 c1, .slice a2 l2 c2] w fun e w' => e = .returned (.bool (sameL xs ys)) ∧ ∃ n, w' = w.drewN n := by
  have C := Lib.hid (sliceEqual_any a1 l1 c1 xs a2 l2 c2 ys w h h')
  obtain ⟨b, hb⟩ : ∃ b, sameL xs ys = b := ⟨_, rfl⟩
  rw [hb] at C ⊢
  clear h h' hb
  go_enter Try.func44, Try.ntmps44
  go_wp2_with fail
  refine C.out.mono ?_
  rintro e w1 ⟨rfl, n, rfl⟩
  go_wp2_with fail
  go_ret
  exact ⟨rfl, n, rfl⟩

set_option maxHeartbeats 1000000 in
theorem same_any (a1 : Option Addr) (l1 c1 : Nat) (xs : List Int) (a2 : Option Addr) (l2 c2 : Nat) (ys : List Int) (w : World) (h : IntsAt w a1 l1 xs) (h' : IntsAt w a2 l2 ys) :
    Calls Try.prog 17 #[.slice a1 l1 c1, .slice a2 l2 c2] w fun e w' => e = .returned (.bool (sameL xs ys)) ∧ ∃ n, w' = w.drewN n := by
  obtain ⟨g1, g2, g3, g4⟩ := h
  obtain ⟨k1, k2, k3, k4⟩ := h'
  by_cases el : l1 = l2
  · obtain rfl := el
    have G := Lib.hid g1
    have K := Lib.hid k1
    clear g1 k1 g3 k3
    go_enter Try.func17, Try.ntmps17
    go_wp2_with fail
    go_loopw [5] (fun i wr => ∃ k n : Nat, k ≤ l1 ∧ i = .int .i64 k ∧ wr = w.drewN n ∧ Hid (xs.take k = ys.take k)) (fun i _ => l1 - (intOf i).toNat)
    case atStart => exact ⟨0, 0, Nat.zero_le _, rfl, rfl, rfl⟩
    case round =>
      obtain ⟨k, n, hk, rfl, rfl, hall⟩ := hrel
      by_cases hlt : k < l1
      · rcases g4 with g4 | ⟨b, off, rfl, hc⟩
        · omega
        rcases k4 with k4 | ⟨b', off', rfl, hc'⟩
        · omega
        have e1 := hc k hlt
        have e2 := hc' k hlt
        clear hc hc'
        have S := Lib.hid (take_step k (by rw [G.out, K.out]) (by rw [G.out]; exact hlt) hall.out)
        have T := Lib.hid (sameL_at (a := xs) (b := ys) k)
        generalize xs.getD k 0 = x at *
        generalize ys.getD k 0 = y at *
        by_cases hxy : x = y
        · subst hxy
          have S2 := Lib.hid (S.out rfl)
          clear S T hall
          go_wp2_with fail
          go_region
          go_wp2_with fail
          go_roundw
          case rel => exact ⟨k + 1, _, by omega, by go_num, rfl, S2⟩
          case measure => (simp [intOf]; try omega)
        · have T2 := Lib.hid (T.out hxy)
          clear S T hall
          go_wp2_with fail
          go_region
          go_wp2_with fail
          go_ret
          exact ⟨ret_bool T2.out, _, rfl⟩
      · have E := Lib.hid (sameL_full k (by rw [G.out, K.out]) (by rw [G.out]; omega) hall.out)
        clear g4 k4 hall
        go_wp2_with fail
        go_ret
        exact ⟨ret_bool E.out, _, rfl⟩
  · have E := Lib.hid (sameL_len (a := xs) (b := ys) (by omega))
    clear g4 k4 g1 k1 g3 k3
    go_enter Try.func17, Try.ntmps17
    go_wp2_with fail
    go_ret
    exact ⟨ret_bool E.out, 0, rfl⟩

/-- There is such a dimension. -/
def hasD (len : Nat) (side : Int) : Bool := decide (0 ≤ side) && decide (side < len)
theorem hasD_low {len : Nat} {side : Int} (h : ¬ 0 ≤ side) : false = hasD len side := by simp [hasD]; omega
theorem hasD_high {len : Nat} {side : Int} (h : ¬ side < len) : false = hasD len side := by simp [hasD]; omega
theorem hasD_yes {len : Nat} {side : Int} (h : 0 ≤ side) (h' : side < len) : true = hasD len side := by simp [hasD, h, h']
theorem hasD_nat {len : Nat} {side : Int} (h : hasD len side = true) : ∃ k : Nat, k < len ∧ side = k := by
  simp [hasD] at h; exact ⟨side.toNat, by omega, by omega⟩

def winN (side width step : Int) : Int := if inR 1 1024 side = true ∧ inR 1 1024 width = true ∧ inR 1 1024 step = true ∧ width ≤ side then 1 + (side - width) / step else 0
def winE (side width step : Int) : Int := if inR 1 1024 side = true ∧ inR 1 1024 width = true ∧ inR 1 1024 step = true ∧ width ≤ side then 0 else 11
theorem win_no {side width step : Int} (h : ¬ (inR 1 1024 side = true ∧ inR 1 1024 width = true ∧ inR 1 1024 step = true ∧ width ≤ side)) : 0 = winN side width step ∧ 11 = winE side width step := by
  unfold winN winE; rw [if_neg h, if_neg h]; exact ⟨rfl, rfl⟩
theorem win_yes {side width step : Int} (h : inR 1 1024 side = true ∧ inR 1 1024 width = true ∧ inR 1 1024 step = true ∧ width ≤ side) : 1 + (side - width) / step = winN side width step ∧ 0 = winE side width step := by
  unfold winN winE; rw [if_pos h, if_pos h]; exact ⟨rfl, rfl⟩

end Go.Proofs.Ytlpecdfiagklpaa