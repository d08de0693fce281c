/-
  The walk of the statement TensorSums.
-/
import Derived.Test.YtjphdkbhkkpeoaaPart
import Derived.Test.YtjphdkbhkkpeoaaRef01M
import Derived.Deep.RegionHeld3
namespace Go.Proofs.Ytjphdkbhkkpeoaa
open Go.RowKit
set_option linter.unusedVariables false
set_option linter.unusedSimpArgs false

set_option maxRecDepth 100000 in
set_option maxHeartbeats 8000000 in
theorem sums_long1 (sa : Option Addr) (sl sc : Nat) (ss : List Int) (ca : Option Addr) (cl cc : Nat) (cs : List Int) (sa2 : Option Addr) (sl2 sc2 : Nat) (ss2 : List Int) (ca2 : Option Addr) (cl2 cc2 : Nat) (ds : List Int) (side fr upto y : Int) (w : World) (h : IntsAt w sa sl ss) (hc : IntsAt w ca cl cs) (h2 : IntsAt w sa2 sl2 ss2) (hd : IntsAt w ca2 cl2 ds) (hr : smallT sl cl = false) :
    Calls Try.prog 7 #[.agg #[.slice sa sl sc, .slice ca cl cc, .slice sa2 sl2 sc2, .slice ca2 cl2 cc2, .int .i64 side, .int .i64 fr, .int .i64 upto], .int .i64 y] w fun e w' => e = .returned (.bool true) ∧ Below w.heap.size w w' := by
  obtain ⟨wA, hwA, J, z, n1⟩ := part_box w (.slice sa sl sc) (.slice ca cl cc) (.slice sa2 sl2 sc2) (.slice ca2 cl2 cc2) (.int .i64 side) (.int .i64 fr) (.int .i64 upto)
  obtain ⟨j0, j1, j2, j3, -, -, -⟩ := J.out.see
  have C := Lib.hid (fun w1 => small_any sa sl sc ca cl cc w1 h.2.1 hc.2.1)
  have D := Lib.hid (fun w1 => small_any sa2 sl2 sc2 ca2 cl2 cc2 w1 h2.2.1 hd.2.1)
  rw [hr] at C
  clear h hc h2 hd hr
  go_enter Try.func7, Try.ntmps7
  go_upto_region 1 with (fail)
  rw [hwA.out]
  go_wp2_with fail
  refine (C.out _).mono ?_
  rintro e w0 ⟨rfl, hb0⟩
  obtain ⟨k0, k1, k2, k3, -, -, -⟩ := (J.out.kept hb0).see
  go_wp2_with fail
  refine (awake04_any _).mono ?_
  rintro e w9 ⟨rfl, hb9⟩
  go_wp2_with fail
  go_ret
  exact ⟨rfl, z.out.trans ((hb0.trans (hb9.mono hb0.size)).mono z.out.size)⟩

set_option maxRecDepth 100000 in
set_option maxHeartbeats 8000000 in
theorem sums_long2 (sa : Option Addr) (sl sc : Nat) (ss : List Int) (ca : Option Addr) (cl cc : Nat) (cs : List Int) (sa2 : Option Addr) (sl2 sc2 : Nat) (ss2 : List Int) (ca2 : Option Addr) (cl2 cc2 : Nat) (ds : List Int) (side fr upto y : Int) (w : World) (h : IntsAt w sa sl ss) (hc : IntsAt w ca cl cs) (h2 : IntsAt w sa2 sl2 ss2) (hd : IntsAt w ca2 cl2 ds) (hr : smallT sl cl = true) (hr2 : smallT sl2 cl2 = false) :
    Calls Try.prog 7 #[.agg #[.slice sa sl sc, .slice ca cl cc, .slice sa2 sl2 sc2, .slice ca2 cl2 cc2, .int .i64 side, .int .i64 fr, .int .i64 upto], .int .i64 y] w fun e w' => e = .returned (.bool true) ∧ Below w.heap.size w w' := by
  obtain ⟨wA, hwA, J, z, n1⟩ := part_box w (.slice sa sl sc) (.slice ca cl cc) (.slice sa2 sl2 sc2) (.slice ca2 cl2 cc2) (.int .i64 side) (.int .i64 fr) (.int .i64 upto)
  obtain ⟨j0, j1, j2, j3, -, -, -⟩ := J.out.see
  have C := Lib.hid (fun w1 => small_any sa sl sc ca cl cc w1 h.2.1 hc.2.1)
  have D := Lib.hid (fun w1 => small_any sa2 sl2 sc2 ca2 cl2 cc2 w1 h2.2.1 hd.2.1)
  rw [hr] at C
  rw [hr2] at D
  clear h hc h2 hd hr hr2
  go_enter Try.func7, Try.ntmps7
  go_upto_region 1 with (fail)
  rw [hwA.out]
  go_wp2_with fail
  refine (C.out _).mono ?_
  rintro e w0 ⟨rfl, hb0⟩
  obtain ⟨k0, k1, k2, k3, -, -, -⟩ := (J.out.kept hb0).see
  go_wp2_with fail
  refine (D.out _).mono ?_
  rintro e w1 ⟨rfl, hb1⟩
  have b1 := hb0.trans (hb1.mono hb0.size)
  go_wp2_with fail
  refine (awake04_any _).mono ?_
  rintro e w9 ⟨rfl, hb9⟩
  go_wp2_with fail
  go_ret
  exact ⟨rfl, z.out.trans ((b1.trans (hb9.mono b1.size)).mono z.out.size)⟩

set_option maxRecDepth 100000 in
set_option maxHeartbeats 8000000 in
theorem sums_wrong (sa : Option Addr) (sl sc : Nat) (ss : List Int) (ca : Option Addr) (cl cc : Nat) (cs : List Int) (sa2 : Option Addr) (sl2 sc2 : Nat) (ss2 : List Int) (ca2 : Option Addr) (cl2 cc2 : Nat) (ds : List Int) (side fr upto y : Int) (w : World) (h : IntsAt w sa sl ss) (hc : IntsAt w ca cl cs) (h2 : IntsAt w sa2 sl2 ss2) (hd : IntsAt w ca2 cl2 ds) (hr : smallT sl cl = true) (hr2 : smallT sl2 cl2 = true) (hy1 : -9223372036854775808 ≤ y) (hy2 : y ≤ 9223372036854775807) (hT : rightT ss cl = false) :
    Calls Try.prog 7 #[.agg #[.slice sa sl sc, .slice ca cl cc, .slice sa2 sl2 sc2, .slice ca2 cl2 cc2, .int .i64 side, .int .i64 fr, .int .i64 upto], .int .i64 y] w fun e w' => e = .returned (.bool true) ∧ Below w.heap.size w w' := by
  obtain ⟨wA, hwA, J, z, n1⟩ := part_box w (.slice sa sl sc) (.slice ca cl cc) (.slice sa2 sl2 sc2) (.slice ca2 cl2 cc2) (.int .i64 side) (.int .i64 fr) (.int .i64 upto)
  obtain ⟨j0, j1, j2, j3, -, -, -⟩ := J.out.see
  have C := Lib.hid (fun w1 => small_any sa sl sc ca cl cc w1 h.2.1 hc.2.1)
  have D := Lib.hid (fun w1 => small_any sa2 sl2 sc2 ca2 cl2 cc2 w1 h2.2.1 hd.2.1)
  rw [hr] at C
  rw [hr2] at D
  have hs : sl ≤ 50 ∧ cl ≤ 600 := by simpa [smallT] using hr
  have hs2 : sl2 ≤ 50 ∧ cl2 ≤ 600 := by simpa [smallT] using hr2
  have H := Lib.hid (fun w1 (hb : Below wA.heap.size wA w1) => (h.kept z.out).kept hb)
  have HC := Lib.hid (fun w1 (hb : Below wA.heap.size wA w1) => (hc.kept z.out).kept hb)
  have H2 := Lib.hid (fun w1 (hb : Below wA.heap.size wA w1) => (h2.kept z.out).kept hb)
  have HD := Lib.hid (fun w1 (hb : Below wA.heap.size wA w1) => (hd.kept z.out).kept hb)
  have HS := Lib.hid hs
  have HS2 := Lib.hid hs2
  have hcl := Lib.hid hc.1
  have hdl := Lib.hid hd.1
  have hfc := Lib.hid hc.2.2.1
  have hfd := Lib.hid hd.2.2.1
  have hy := Lib.hid (And.intro hy1 hy2)
  have KA := Lib.hid (fun w1 (hb : Below wA.heap.size wA w1) => tadd_any sa sl sc ss ca cl cc cs sa2 sl2 sc2 ss2 ca2 cl2 cc2 ds w1 (H.out _ hb) (by have := HS.out.1; omega) (HC.out _ hb) (by have := HS.out.2; omega) (H2.out _ hb) (HD.out _ hb) (by have := HS2.out.2; omega))
  have KS := Lib.hid (fun w1 (hb : Below wA.heap.size wA w1) => scale_any sa sl sc ss ca cl cc cs y w1 (H.out _ hb) (by have := HS.out.1; omega) (HC.out _ hb) (by have := HS.out.2; omega) hy.out.1 hy.out.2)
  have KD := Lib.hid (fun w1 (hb : Below wA.heap.size wA w1) => tdot_any sa sl sc ss ca cl cc cs sa2 sl2 sc2 ss2 ca2 cl2 cc2 ds w1 (H.out _ hb) (HC.out _ hb) (H2.out _ hb) (HD.out _ hb))
  have R1 := Lib.hid (fun w1 (hb : Below wA.heap.size wA w1) => refright_any sa sl sc ss ca cl cc w1 (H.out _ hb) (by have := HS.out.2; omega))
  have R2 := Lib.hid (fun w1 (hb : Below wA.heap.size wA w1) => refright_any sa2 sl2 sc2 ss2 ca2 cl2 cc2 w1 (H2.out _ hb) (by have := HS2.out.2; omega))
  have SM := Lib.hid (fun w1 (hb : Below wA.heap.size wA w1) => same_any sa sl sc ss sa2 sl2 sc2 ss2 w1 (H.out _ hb) (H2.out _ hb))
  clear h hc h2 hd hr hr2 hs hs2 hy1 hy2
  have al : alikeT ss cl ss2 cl2 = false := by simp [alikeT, hT]
  simp only [al, hT, okL, okE, if_false, Bool.false_eq_true] at KA KS KD R1
  clear al hT
  go_enter Try.func7, Try.ntmps7
  go_upto_region 1 with (fail)
  rw [hwA.out]
  go_wp2_with fail
  refine (C.out _).mono ?_
  rintro e w0 ⟨rfl, hb0⟩
  obtain ⟨k0, k1, k2, k3, -, -, -⟩ := (J.out.kept hb0).see
  go_wp2_with fail
  refine (D.out _).mono ?_
  rintro e w1 ⟨rfl, hb1⟩
  have b1 := Lib.hid (hb0.trans (hb1.mono hb0.size))
  clear k0 k1 k2 k3 hb0 hb1 C D j0 j1 j2 j3
  obtain ⟨k0, k1, k2, k3, -, -, -⟩ := (J.out.kept b1.out).see
  go_wp2_with fail
  refine (KA.out _ b1.out).mono ?_
  rintro e w2 ⟨A1, a1, d1, A2, a2, d2, rfl, hS1, hC1, hb2⟩
  obtain ⟨w3, hw3, Jc, x3, n3⟩ := grid_box w2 (.slice A1 a1 d1) (.slice A2 a2 d2)
  have b3 := Lib.hid (b1.out.trans ((hb2.trans (x3.out.mono hb2.size)).mono b1.out.size))
  have cS3 := Lib.hid (hS1.kept x3.out)
  have cC3 := Lib.hid (hC1.kept x3.out)
  clear k0 k1 k2 k3 hS1 hC1 hb2 KA
  go_upto_region 4 with (fail)
  rw [hw3.out]
  obtain ⟨k0, k1, k2, k3, -, -, -⟩ := (J.out.kept b3.out).see
  go_wp2_with fail
  refine (KS.out _ b3.out).mono ?_
  rintro e w4 ⟨A3, a3, d3, A4, a4, d4, rfl, hS2, hC2, hb4⟩
  obtain ⟨w5, hw5, Jd, x5, n5⟩ := grid_box w4 (.slice A3 a3 d3) (.slice A4 a4 d4)
  have r5 := hb4.trans (x5.out.mono hb4.size)
  have b5 := Lib.hid (b3.out.trans (r5.mono b3.out.size))
  have cS5 := Lib.hid (cS3.out.kept r5)
  have cC5 := Lib.hid (cC3.out.kept r5)
  have Jc5 := Lib.hid (Jc.out.kept r5)
  have dC5 := Lib.hid (hC2.kept x5.out)
  clear k0 k1 k2 k3 hS2 hC2 hb4 r5 KS Jc cS3 cC3
  go_upto_region 5 with (fail)
  rw [hw5.out]
  obtain ⟨k0, k1, k2, k3, -, -, -⟩ := (J.out.kept b5.out).see
  go_wp2_with fail
  refine (KD.out _ b5.out).mono ?_
  rintro e w6 ⟨rfl, hb6⟩
  have b6 := Lib.hid (b5.out.trans (hb6.mono b5.out.size))
  have cS6 := Lib.hid (cS5.out.kept hb6)
  have cC6 := Lib.hid (cC5.out.kept hb6)
  have Jc6 := Lib.hid (Jc5.out.kept hb6)
  have Jd6 := Lib.hid (Jd.out.kept hb6)
  have dC6 := Lib.hid (dC5.out.kept hb6)
  clear k0 k1 k2 k3 hb6 KD cS5 cC5 Jc5 Jd dC5
  go_upto_region 6 with (fail)
  obtain ⟨k0, k1, k2, k3, -, -, -⟩ := (J.out.kept b6.out).see
  obtain ⟨p0, p1, -, -⟩ := Jc6.out.see
  obtain ⟨q0, q1, -, -⟩ := Jd6.out.see
  have a40 : a4 = 0 := by simpa using dC6.out.1.symm
  have a20 : a2 = 0 := by simpa using cC6.out.1.symm
  subst a40 a20
  go_wp2_with fail
  refine (R1.out _ b6.out).mono ?_
  rintro e w7 ⟨rfl, hb7⟩
  have b7 := Lib.hid (b6.out.trans (hb7.mono b6.out.size))
  have Jc7 := Lib.hid (Jc6.out.kept hb7)
  have Jd7 := Lib.hid (Jd6.out.kept hb7)
  clear k0 k1 k2 k3 p0 p1 q0 q1
  obtain ⟨k0, k1, k2, k3, -, -, -⟩ := (J.out.kept b7.out).see
  obtain ⟨p0, p1, -, -⟩ := Jc7.out.see
  obtain ⟨q0, q1, -, -⟩ := Jd7.out.see
  go_wp2_with fail
  refine wp_loop_once ?_
  go_wp2_with fail
  refine (R1.out _ b7.out).mono ?_
  rintro e w8 ⟨rfl, hb8⟩
  have b8 := Lib.hid (b7.out.trans (hb8.mono b7.out.size))
  have Jc8 := Lib.hid (Jc7.out.kept hb8)
  clear k0 k1 k2 k3 p0 p1 q0 q1
  obtain ⟨p0, p1, -, -⟩ := Jc8.out.see
  go_wp2_with fail
  refine (awake04_any _).mono ?_
  rintro e w9 ⟨rfl, hb9⟩
  go_wp2_with fail
  go_ret
  exact ⟨rfl, z.out.trans ((b8.out.trans (hb9.mono b8.out.size)).mono z.out.size)⟩
end Go.Proofs.Ytjphdkbhkkpeoaa
