/-
  Contracts of package safe, the closures: within, Right, all.
-/
import Derived.Test.YtlpecdfiagklpaaRows
import Derived.Test.YtlpecdfiagklpaaInts
import Derived.Test.YtlpecdfiagklpaaSafeMath
namespace Go.Proofs.Ytlpecdfiagklpaa
open Go.RowKit
set_option linter.unusedVariables false
set_option linter.unusedSimpArgs false

set_option maxHeartbeats 400000 in
theorem within1_any (lo hi n : Int) (p q : Addr) (w : World) (hp : w.cell? p = some (.int .i64 lo)) (hq : w.cell? q = some (.int .i64 hi)) :
    Calls Try.prog 66 #[.int .i64 n, .pointer (some p), .pointer (some q)] w fun e w' => e = .returned (.bool (inR lo hi n)) ∧ w = w' := by
  by_cases c : lo ≤ n
  · by_cases d : n ≤ hi
    · have E := Lib.hid (inR_yes c d).symm
      go_enter Try.func66, Try.ntmps66
      go_wp2_with fail
      go_ret
      exact ⟨ret_bool E.out, rfl⟩
    · have E := Lib.hid (inR_high (lo := lo) d).symm
      go_enter Try.func66, Try.ntmps66
      go_wp2_with fail
      go_ret
      exact ⟨ret_bool E.out, rfl⟩
  · have E := Lib.hid (inR_low (hi := hi) c).symm
    go_enter Try.func66, Try.ntmps66
    go_wp2_with fail
    go_ret
    exact ⟨ret_bool E.out, rfl⟩

set_option maxHeartbeats 400000 in
theorem within_any (lo hi : Int) (w : World) :
    Calls Try.prog 65 #[.int .i64 lo, .int .i64 hi] w fun e w' => e = .returned (.func (.func 66) #[] #[.pointer (some ⟨w.heap.size, 0, none⟩), .pointer (some ⟨w.heap.size + 1, 0, none⟩)]) ∧
      w'.cell? ⟨w.heap.size, 0, none⟩ = some (.int .i64 lo) ∧ w'.cell? ⟨w.heap.size + 1, 0, none⟩ = some (.int .i64 hi) ∧ Below w.heap.size w w' ∧ w'.heap.size = w.heap.size + 2 := by
  have hmf : ∀ (fn : Fn) (first cap : Array Value) (w : World), (Instr.makeFunc fn first cap).run Try.prog w = .ok (.func fn first cap) w := fun _ _ _ _ => rfl
  go_enter Try.func65, Try.ntmps65
  go_wp2_with fail
  go_ret
  refine ⟨rfl, ?_, ?_, ((Below.refl _ _).alloc (Nat.le_refl _) _).alloc (by simp) _, by simp⟩
  · rw [World.cell?_alloc_past _ _ _ (by simp), World.cell?_alloc_at _ _ _ _ rfl]; rfl
  · rw [World.cell?_alloc_at _ _ _ _ (by simp)]; rfl

set_option maxHeartbeats 400000 in
theorem right_any (n : Int) (w : World) :
    Calls Try.prog 64 #[.int .i64 n] w fun e w' => e = .returned (.bool (inR 0 1099511627776 n)) ∧ Below w.heap.size w w' := by
  have C := Lib.hid (within_any 0 1099511627776 w)
  go_enter Try.func64, Try.ntmps64
  go_wp2_with fail
  refine C.out.mono ?_
  rintro e w1 ⟨rfl, hp, hq, hb, -⟩
  have D := Lib.hid (within1_any 0 1099511627776 n _ _ w1 hp hq)
  clear hp hq
  go_wp2_with fail
  refine D.out.mono ?_
  rintro e w2 ⟨rfl, rfl⟩
  go_wp2_with fail
  go_ret
  exact ⟨rfl, hb⟩

set_option maxHeartbeats 1000000 in
theorem all_right (a : Option Addr) (len cap : Nat) (zs : List Int) (w : World) (h : IntsAt w a len zs) :
    Calls Try.prog 63 #[.slice a len cap, .func (.func 64) #[] #[]] w fun e w' => e = .returned (.bool (allR 0 1099511627776 zs)) ∧ Below w.heap.size w w' := by
  obtain ⟨h1, h2, h3, h4⟩ := h
  go_enter Try.func63, Try.ntmps63
  go_wp2_with fail
  go_loopw [9] (fun i wr => ∃ k : Nat, k ≤ len ∧ i = .int .i64 k ∧ Hid (allR 0 1099511627776 (zs.take k) = true) ∧ Below w.heap.size w wr) (fun i _ => len - (intOf i).toNat)
  case atStart => exact ⟨0, Nat.zero_le _, rfl, rfl, Below.refl _ _⟩
  case round =>
    obtain ⟨k, hk, rfl, hall, hb⟩ := hrel
    by_cases hlt : k < len
    · rcases h4 with h4 | ⟨b, off, rfl, hc⟩
      · omega
      · have hcell := cell_later hb (hc k hlt)
        clear hc
        have S := Lib.hid (allR_step 0 1099511627776 zs k (by omega) hall.out)
        have T := Lib.hid (allR_stop 0 1099511627776 zs k (by omega))
        generalize zs.getD k 0 = x at *
        clear h1 h3
        have C := Lib.hid (right_any x wr)
        cases c : inR 0 1099511627776 x
        · have C2 := C.out
          rw [c] at C2
          have C3 := Lib.hid C2
          have T2 := Lib.hid (T.out c)
          clear C2 C T S c
          go_wp2_with fail
          refine C3.out.mono ?_
          rintro e w1 ⟨rfl, hb1⟩
          go_wp2_with fail
          go_ret
          exact ⟨ret_bool T2.out, hb.trans (hb1.mono hb.size)⟩
        · have C2 := C.out
          rw [c] at C2
          have C3 := Lib.hid C2
          have T2 := Lib.hid (S.out c)
          clear C2 C T S c
          go_wp2_with fail
          refine C3.out.mono ?_
          rintro e w1 ⟨rfl, hb1⟩
          go_wp2_with fail
          go_roundw
          case rel => exact ⟨k + 1, by omega, by go_num, T2, hb.trans (hb1.mono hb.size)⟩
          case measure => (simp [intOf]; try omega)
    · have T2 := Lib.hid (allR_full 0 1099511627776 zs k (by omega) hall.out)
      clear h1 h3 h4
      go_wp2_with fail
      go_ret
      exact ⟨ret_bool T2.out, hb⟩

set_option maxHeartbeats 1000000 in
theorem all_within (lo hi : Int) (p q : Addr) (a : Option Addr) (len cap : Nat) (zs : List Int) (w : World) (h : IntsAt w a len zs) (hp : w.cell? p = some (.int .i64 lo)) (hq : w.cell? q = some (.int .i64 hi)) :
    Calls Try.prog 63 #[.slice a len cap, .func (.func 66) #[] #[.pointer (some p), .pointer (some q)]] w fun e w' => e = .returned (.bool (allR lo hi zs)) ∧ w = w' := by
  obtain ⟨h1, h2, h3, h4⟩ := h
  have D := Lib.hid (fun n => within1_any lo hi n p q w hp hq)
  clear hp hq
  go_enter Try.func63, Try.ntmps63
  go_wp2_with fail
  go_loop [9] (fun i => ∃ k : Nat, k ≤ len ∧ i = .int .i64 k ∧ Hid (allR lo hi (zs.take k) = true)) (fun i => len - (intOf i).toNat)
  case atStart => exact ⟨0, Nat.zero_le _, rfl, rfl⟩
  case round =>
    obtain ⟨k, hk, rfl, hall⟩ := hrel
    by_cases hlt : k < len
    · rcases h4 with h4 | ⟨b, off, rfl, hc⟩
      · omega
      · have hcell := hc k hlt
        clear hc
        have S := Lib.hid (allR_step lo hi zs k (by omega) hall.out)
        have T := Lib.hid (allR_stop lo hi zs k (by omega))
        generalize zs.getD k 0 = x at *
        clear h1 h3
        have C := Lib.hid (D.out x)
        cases c : inR lo hi x
        · have C2 := C.out
          rw [c] at C2
          have C3 := Lib.hid C2
          have T2 := Lib.hid (T.out c)
          clear C2 C T S c
          go_wp2_with fail
          refine C3.out.mono ?_
          rintro e w1 ⟨rfl, rfl⟩
          go_wp2_with fail
          go_ret
          exact ⟨ret_bool T2.out, rfl⟩
        · have C2 := C.out
          rw [c] at C2
          have C3 := Lib.hid C2
          have T2 := Lib.hid (S.out c)
          clear C2 C T S c
          go_wp2_with fail
          refine C3.out.mono ?_
          rintro e w1 ⟨rfl, rfl⟩
          go_wp2_with fail
          go_round
          case rel => exact ⟨k + 1, by omega, by go_num, T2⟩
          case measure => (simp [intOf]; try omega)
    · have T2 := Lib.hid (allR_full lo hi zs k (by omega) hall.out)
      clear h1 h3 h4
      go_wp2_with fail
      go_ret
      exact ⟨ret_bool T2.out, rfl⟩

end Go.Proofs.Ytlpecdfiagklpaa
