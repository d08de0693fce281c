/-
  Contracts over lists of tensors: cells, other.
-/
import Derived.Test.YtilocmdanjekhaaGs
import Derived.Test.YtilocmdanjekhaaPtRef
namespace Go.Proofs.Ytilocmdanjekhaa
open Go.RowKit
set_option linter.unusedVariables false
set_option linter.unusedSimpArgs false

/-- The second input's cell at a place; 0 if there is none. -/
def otherN (ts : List TV) (k : Nat) : Int := match ts[1]? with
  | none => 0
  | some t => t.cs.getD k 0
theorem otherN_one {ts : List TV} {k : Nat} (h : ts.length < 2) : otherN ts k = 0 := by unfold otherN; rw [List.getElem?_eq_none (by omega)]
theorem otherN_two {ts : List TV} {k : Nat} {t : TV} (h : ts[1]? = some t) : otherN ts k = t.cs.getD k 0 := by unfold otherN; rw [h]

set_option maxHeartbeats 1000000 in
theorem cells_any (a : Option Addr) (len cap : Nat) (ts : List TV) (k : Nat) (w : World) (h : GsAt w a len ts) (h0 : 0 < len) (t0 : TV) (ht0 : ts[0]? = some t0) (hk : k < t0.cl) (h1 : ∀ t, ts[1]? = some t → k < t.cl) :
    Calls Try.prog 24 #[.slice a len cap, .int .i64 k] w fun e w' => e = .returned (.tuple #[.int .i64 (t0.cs.getD k 0), .int .i64 (otherN ts k)]) ∧ w = w' := by
  obtain ⟨t, b, off, ht, rfl, c0, c1, hAt⟩ := h.at h0
  obtain rfl : t = t0 := by rw [ht] at ht0; exact Option.some.inj ht0
  obtain ⟨b2, off2, e2, hc2⟩ : ∃ b2 off2, t.ca = some ⟨b2, off2, none⟩ ∧ w.cell? ⟨b2, off2 + k, none⟩ = some (.int .i64 (t.cs.getD k 0)) := by
    rcases hAt.2.1.2.2.2 with h4 | ⟨b2, off2, ha, hc⟩
    · omega
    · exact ⟨b2, off2, ha, hc k hk⟩
  rw [e2] at c1
  have l1 := hAt.2.2.2
  simp only [Nat.zero_mul, Nat.add_zero] at c0 c1
  obtain ⟨x, hx⟩ : ∃ x, t.cs.getD k 0 = x := ⟨_, rfl⟩
  rw [hx] at hc2 ⊢
  clear hx
  by_cases g : len < 2
  · have E := Lib.hid (otherN_one (ts := ts) (k := k) (by rw [h.1]; exact g))
    clear h hAt ht0
    go_enter Try.func24, Try.ntmps24
    go_wp2_with fail
    go_ret2
    exact ⟨ret_ints2 rfl E.out.symm, rfl⟩
  · obtain ⟨u, b', off', hu, e', d0, d1, hBt⟩ := h.at (k := 1) (by omega)
    simp only [Option.some.injEq, Addr.mk.injEq, and_true] at e'
    obtain ⟨rfl, rfl⟩ := e'
    have hk2 := h1 u hu
    have E := Lib.hid (otherN_two (k := k) hu)
    obtain ⟨b3, off3, e3, hc3⟩ : ∃ b3 off3, u.ca = some ⟨b3, off3, none⟩ ∧ w.cell? ⟨b3, off3 + k, none⟩ = some (.int .i64 (u.cs.getD k 0)) := by
      rcases hBt.2.1.2.2.2 with h4 | ⟨b2, off2, ha, hc⟩
      · omega
      · exact ⟨b2, off2, ha, hc k hk2⟩
    rw [e3] at d1
    have l2 := hBt.2.2.2
    obtain ⟨y, hy⟩ : ∃ y, u.cs.getD k 0 = y := ⟨_, rfl⟩
    rw [hy] at hc3 E
    simp only [Nat.one_mul] at d0 d1
    clear h hAt ht0 hy hBt
    go_enter Try.func24, Try.ntmps24
    go_wp2_with fail
    go_ret2
    exact ⟨ret_ints2 rfl E.out.symm, rfl⟩

/-- The second input's cell, as the statements read it. -/
def otherM (ts : List TV) (k : Nat) : Int := match ts[1]? with
  | none => 0
  | some t => if k < t.cl then t.cs.getD k 0 else 0
theorem otherM_one {ts : List TV} {k : Nat} (h : ts.length < 2) : otherM ts k = 0 := by unfold otherM; rw [List.getElem?_eq_none (by omega)]
theorem otherM_two {ts : List TV} {k : Nat} {t : TV} (h : ts[1]? = some t) (hk : k < t.cl) : otherM ts k = t.cs.getD k 0 := by unfold otherM; rw [h]; exact if_pos hk
theorem otherM_far {ts : List TV} {k : Nat} {t : TV} (h : ts[1]? = some t) (hk : ¬ k < t.cl) : otherM ts k = 0 := by unfold otherM; rw [h]; exact if_neg hk
theorem otherM_eq {ts : List TV} {k : Nat} (h : ∀ t, ts[1]? = some t → k < t.cl) : otherM ts k = otherN ts k := by
  unfold otherM otherN
  cases e : ts[1]? with
  | none => rfl
  | some t => exact if_pos (h t e)

set_option maxHeartbeats 1000000 in
theorem other_any (a : Option Addr) (len cap : Nat) (ts : List TV) (k : Nat) (w : World) (h : GsAt w a len ts) (hk0 : k ≤ 17592186044416) :
    Calls Try.prog 13 #[.slice a len cap, .int .i64 k] w fun e w' => e = .returned (.int .i64 (otherM ts k)) ∧ w = w' := by
  have hl := h.2.1
  by_cases g : len < 2
  · have E := Lib.hid (otherM_one (ts := ts) (k := k) (by rw [h.1]; exact g))
    have dg : decide ((len : Int) < 2) = true := decide_eq_true (by omega)
    clear h
    go_enter Try.func13, Try.ntmps13
    go_wp2_with fail
    go_ret
    exact ⟨ret_int E.out.symm, rfl⟩
  · have dg : decide ((len : Int) < 2) = false := decide_eq_false (by omega)
    obtain ⟨u, b, off, hu, rfl, d0, d1, hBt⟩ := h.at (k := 1) (by omega)
    have l2 := hBt.2.2.2
    simp only [Nat.one_mul] at d0 d1
    by_cases hk : k < u.cl
    · have E := Lib.hid (otherM_two hu hk)
      have dk : decide ((u.cl : Int) ≤ (k : Int)) = false := decide_eq_false (by omega)
      obtain ⟨b3, off3, e3, hc3⟩ : ∃ b3 off3, u.ca = some ⟨b3, off3, none⟩ ∧ w.cell? ⟨b3, off3 + k, none⟩ = some (.int .i64 (u.cs.getD k 0)) := by
        rcases hBt.2.1.2.2.2 with h4 | ⟨b2, off2, ha, hc⟩
        · omega
        · exact ⟨b2, off2, ha, hc k hk⟩
      rw [e3] at d1
      obtain ⟨y, hy⟩ : ∃ y, u.cs.getD k 0 = y := ⟨_, rfl⟩
      rw [hy] at hc3 E
      clear h hBt hy
      go_enter Try.func13, Try.ntmps13
      go_wp2_with fail
      go_ret
      exact ⟨ret_int E.out.symm, rfl⟩
    · have E := Lib.hid (otherM_far hu hk)
      have dk : decide ((u.cl : Int) ≤ (k : Int)) = true := decide_eq_true (by omega)
      clear h hBt
      go_enter Try.func13, Try.ntmps13
      go_wp2_with fail
      go_ret
      exact ⟨ret_int E.out.symm, rfl⟩
end Go.Proofs.Ytilocmdanjekhaa
