/-
  The walks of the statements SafeSums and SafeProducts.
-/
import Derived.Test.YtofekhkggojpnaaAwake02
namespace Go.Proofs.Ytofekhkggojpnaa
open Go.RowKit
set_option linter.unusedVariables false
set_option linter.unusedSimpArgs false

set_option maxHeartbeats 2000000 in
theorem safeSums_walk (a : Option Addr) (len cap : Nat) (zs : List Int) (w : World) (h : IntsAt w a len zs) :
    Calls Try.prog 3 #[.slice a len cap] w fun e w' => e = .returned (.bool true) ∧ Below w.heap.size w w' := by
  by_cases g : 200 < len
  · go_enter Try.func3, Try.ntmps3
    go_wp2_with fail
    refine (awake02_any _).mono ?_
    rintro e w2 ⟨rfl, hb2⟩
    go_wp2_with fail
    go_ret
    exact ⟨rfl, hb2⟩
  · have C := Lib.hid (safeadd_any a len cap zs w h)
    have D := Lib.hid (fun w1 (hb : Below w.heap.size w w1) => refsum_any a len cap zs w1 (h.kept hb))
    generalize addN zs = x at *
    generalize addE zs = y at *
    clear h
    go_enter Try.func3, Try.ntmps3
    go_wp2_with fail
    refine C.out.mono ?_
    rintro e w1 ⟨rfl, hb⟩
    go_wp2_with fail
    refine (D.out w1 hb).mono ?_
    rintro e w' ⟨rfl, rfl⟩
    go_wp2_with fail
    refine (awake02_any _).mono ?_
    rintro e w2 ⟨rfl, hb2⟩
    go_wp2_with fail
    go_ret
    exact ⟨rfl, hb.trans (hb2.mono hb.size)⟩

set_option maxHeartbeats 2000000 in
theorem safeProducts_walk (a : Option Addr) (len cap : Nat) (zs : List Int) (w : World) (h : IntsAt w a len zs) :
    Calls Try.prog 4 #[.slice a len cap] w fun e w' => e = .returned (.bool true) ∧ Below w.heap.size w w' := by
  by_cases g : 200 < len
  · go_enter Try.func4, Try.ntmps4
    go_wp2_with fail
    refine (awake02_any _).mono ?_
    rintro e w2 ⟨rfl, hb2⟩
    go_wp2_with fail
    go_ret
    exact ⟨rfl, hb2⟩
  · have C := Lib.hid (safemul_any a len cap zs w h)
    have D := Lib.hid (fun w1 (hb : Below w.heap.size w w1) => refprod_any a len cap zs w1 (h.kept hb))
    generalize mulN zs = x at *
    generalize mulE zs = y at *
    clear h
    go_enter Try.func4, Try.ntmps4
    go_wp2_with fail
    refine C.out.mono ?_
    rintro e w1 ⟨rfl, hb⟩
    go_wp2_with fail
    refine (D.out w1 hb).mono ?_
    rintro e w' ⟨rfl, rfl⟩
    go_wp2_with fail
    refine (awake02_any _).mono ?_
    rintro e w2 ⟨rfl, hb2⟩
    go_wp2_with fail
    go_ret
    exact ⟨rfl, hb.trans (hb2.mono hb.size)⟩

set_option maxHeartbeats 2000000 in
theorem safeRoots_walk (n : Int) (w : World) (h1 : -9223372036854775808 ≤ n) (h2 : n ≤ 9223372036854775807) :
    Calls Try.prog 6 #[.int .i64 n] w fun e w' => e = .returned (.bool true) ∧ Below w.heap.size w w' := by
  have c0 := isqrt_any n w h1 h2
  by_cases g : n < 1
  · rw [rootI_nought n g] at c0
    have C := Lib.hid c0
    clear c0
    go_enter Try.func6, Try.ntmps6
    go_wp2_with fail
    refine C.out.mono ?_
    rintro e w' ⟨rfl, rfl⟩
    go_wp2_with fail
    refine (awake02_any _).mono ?_
    rintro e w2 ⟨rfl, hb2⟩
    go_wp2_with fail
    go_ret
    exact ⟨rfl, hb2⟩
  · obtain ⟨r0, r1, r2⟩ := rootI_spec n (by omega) h2
    have C := Lib.hid c0
    clear c0
    generalize rootI n = r at *
    have t1 : 1 ≤ r := by
      apply Decidable.byContradiction
      intro hn
      obtain rfl : r = 0 := by omega
      omega
    have t2 : r ≤ 4294967296 := by
      apply Decidable.byContradiction
      intro hn
      have := Int.mul_le_mul (show (4294967296 : Int) ≤ r by omega) (show (4294967296 : Int) ≤ r by omega) (by omega) (by omega)
      omega
    have t3 : r ≤ n / r := (Int.le_ediv_iff_mul_le (by omega)).2 r1
    have t4 : n / (r + 1) < r + 1 := (Int.ediv_lt_iff_lt_mul (by omega)).2 r2
    clear r1 r2 r0
    go_enter Try.func6, Try.ntmps6
    go_wp2_with fail
    refine C.out.mono ?_
    rintro e w' ⟨rfl, rfl⟩
    go_wp2_with fail
    refine (awake02_any _).mono ?_
    rintro e w2 ⟨rfl, hb2⟩
    go_wp2_with fail
    go_ret
    exact ⟨rfl, hb2⟩
end Go.Proofs.Ytofekhkggojpnaa
