/-
  The walk of the statement ShapeAll.
-/
import Derived.Test.YtieajkpjkhdjeaaWalkB
namespace Go.Proofs.Ytieajkpjkhdjeaa
open Go.RowKit
set_option linter.unusedVariables false
set_option linter.unusedSimpArgs false

theorem all_early (a : Option Addr) (len cap : Nat) (stop : Int) (w : World) (h1 : 50 < len ∨ (¬ 50 < len ∧ stop < 1) ∨ (¬ 50 < len ∧ ¬ stop < 1 ∧ 500 < stop)) :
    Calls Try.prog 5 #[.slice a len cap, .int .i64 stop] w fun e w' => e = .returned (.bool true) ∧ Below w.heap.size w w' := by
  rcases h1 with g | ⟨g, g2⟩ | ⟨g, g2, g3⟩
  · go_enter Try.func5, Try.ntmps5
    go_wp2_with fail
    refine (awake03_any _).mono ?_
    rintro e w2 ⟨rfl, hb2⟩
    go_wp2_with fail
    go_ret
    exact ⟨rfl, hb2⟩
  · go_enter Try.func5, Try.ntmps5
    go_wp2_with fail
    refine (awake03_any _).mono ?_
    rintro e w2 ⟨rfl, hb2⟩
    go_wp2_with fail
    go_ret
    exact ⟨rfl, hb2⟩
  · go_enter Try.func5, Try.ntmps5
    go_wp2_with fail
    refine (awake03_any _).mono ?_
    rintro e w2 ⟨rfl, hb2⟩
    go_wp2_with fail
    go_ret
    exact ⟨rfl, hb2⟩

theorem all_late (a : Option Addr) (len cap : Nat) (zs : List Int) (stop : Int) (w : World) (h : IntsAt w a len zs) (g : ¬ 50 < len) (g2 : ¬ stop < 1) (g3 : ¬ 500 < stop) :
    Calls Try.prog 5 #[.slice a len cap, .int .i64 stop] w fun e w' => e = .returned (.bool true) ∧ Below w.heap.size w w' := by
  have H := Lib.hid h
  obtain ⟨m, hm⟩ : ∃ m : Nat, stop = m := ⟨stop.toNat, by omega⟩
  have HM := Lib.hid hm
  have D := Lib.hid (fun w1 (hb : Below w.heap.size w w1) => refshape_any a len cap zs w1 (h.kept hb))
  cases c : rightS zs
  · rw [c] at D
    have N := Lib.hid (fun w1 (hb : Below w.heap.size w w1) => none_any a len cap zs w1 (H.out.kept hb) c)
    clear c h hm
    go_enter Try.func5, Try.ntmps5
    go_wp2_with fail
    refine (awake03_any _).mono ?_
    rintro e w2 ⟨rfl, hb2⟩
    go_wp2_with fail
    refine (D.out w2 hb2).mono ?_
    rintro e w' ⟨rfl, rfl⟩
    go_wp2_with fail
    refine (N.out w2 hb2).mono ?_
    rintro e w3 ⟨rfl, hb3⟩
    replace hb3 := hb2.trans (hb3.mono hb2.size)
    clear hb2
    go_wp2_with fail
    refine (awake03_any _).mono ?_
    rintro e w4 ⟨rfl, hb4⟩
    replace hb4 := hb3.trans (hb4.mono hb3.size)
    go_wp2_with fail
    go_ret
    exact ⟨rfl, hb4⟩
  · rw [c] at D
    have N := Lib.hid (fun w1 (hb : Below w.heap.size w w1) => walk_any a len cap zs m w1 (H.out.kept hb) c (by omega) (by omega))
    rw [← hm] at N
    clear c h hm
    go_enter Try.func5, Try.ntmps5
    go_wp2_with fail
    refine (awake03_any _).mono ?_
    rintro e w2 ⟨rfl, hb2⟩
    go_wp2_with fail
    refine (D.out w2 hb2).mono ?_
    rintro e w' ⟨rfl, rfl⟩
    go_wp2_with fail
    refine (N.out w2 hb2).mono ?_
    rintro e w3 ⟨rfl, hb3⟩
    replace hb3 := hb2.trans (hb3.mono hb2.size)
    clear hb2
    go_wp2_with fail
    refine (awake03_any _).mono ?_
    rintro e w4 ⟨rfl, hb4⟩
    replace hb4 := hb3.trans (hb4.mono hb3.size)
    go_wp2_with fail
    go_ret
    exact ⟨rfl, hb4⟩

theorem shapeAll_walk (a : Option Addr) (len cap : Nat) (zs : List Int) (stop : Int) (w : World) (h : IntsAt w a len zs) (hs1 : -9223372036854775808 ≤ stop) (hs2 : stop ≤ 9223372036854775807) :
    Calls Try.prog 5 #[.slice a len cap, .int .i64 stop] w fun e w' => e = .returned (.bool true) ∧ Below w.heap.size w w' := by
  by_cases g : 50 < len
  · exact all_early a len cap stop w (.inl g)
  by_cases g2 : stop < 1
  · exact all_early a len cap stop w (.inr (.inl ⟨g, g2⟩))
  by_cases g3 : 500 < stop
  · exact all_early a len cap stop w (.inr (.inr ⟨g, g2, g3⟩))
  exact all_late a len cap zs stop w h g g2 g3
end Go.Proofs.Ytieajkpjkhdjeaa
