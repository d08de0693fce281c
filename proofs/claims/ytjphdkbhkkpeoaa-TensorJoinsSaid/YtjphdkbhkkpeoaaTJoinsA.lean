/-
  The walk of the statement TensorJoins: the ways that end early.
-/
import Derived.Test.YtjphdkbhkkpeoaaJoinMath
import Derived.Deep.RegionHeld3
namespace Go.Proofs.Ytjphdkbhkkpeoaa
open Go.RowKit
set_option linter.unusedVariables false
set_option linter.unusedSimpArgs false

set_option maxRecDepth 100000 in
set_option maxHeartbeats 8000000 in
theorem tjoins_long1 (sa : Option Addr) (sl sc : Nat) (ss : List Int) (ca : Option Addr) (cl cc : Nat) (cs : List Int) (sa2 : Option Addr) (sl2 sc2 : Nat) (ss2 : List Int) (ca2 : Option Addr) (cl2 cc2 : Nat) (ds : List Int) (side fr upto : Int) (w : World) (h : IntsAt w sa sl ss) (hcp : Capped sl sc) (hc : IntsAt w ca cl cs) (hcq : Capped cl cc) (h2 : IntsAt w sa2 sl2 ss2) (hcp2 : Capped sl2 sc2) (hd : IntsAt w ca2 cl2 ds) (hcq2 : Capped cl2 cc2) (hr : smallT sl cl = false) :
    Calls Try.prog 6 #[.agg #[.slice sa sl sc, .slice ca cl cc, .slice sa2 sl2 sc2, .slice ca2 cl2 cc2, .int .i64 side, .int .i64 fr, .int .i64 upto]] w fun e w' => e = .returned (.bool true) ∧ Below w.heap.size w w' := by
  obtain ⟨wA, hwA, J, z, n1⟩ := part_box w (.slice sa sl sc) (.slice ca cl cc) (.slice sa2 sl2 sc2) (.slice ca2 cl2 cc2) (.int .i64 side) (.int .i64 fr) (.int .i64 upto)
  obtain ⟨j0, j1, j2, j3, j4, -, -⟩ := J.out.see
  have C := Lib.hid (fun w1 => small_any sa sl sc ca cl cc w1 h.2.1 hc.2.1)
  have D := Lib.hid (fun w1 => small_any sa2 sl2 sc2 ca2 cl2 cc2 w1 h2.2.1 hd.2.1)
  rw [hr] at C
  clear h hc h2 hd hr
  go_enter Try.func6, Try.ntmps6
  go_upto_region 1 with (fail)
  rw [hwA.out]
  go_wp2_with fail
  refine (C.out _).mono ?_
  rintro e w0 ⟨rfl, hb0⟩
  go_wp2_with fail
  refine (awake04_any _).mono ?_
  rintro e w9 ⟨rfl, hb9⟩
  go_wp2_with fail
  go_ret
  exact ⟨rfl, z.out.trans ((hb0.trans (hb9.mono hb0.size)).mono z.out.size)⟩

set_option maxRecDepth 100000 in
set_option maxHeartbeats 8000000 in
theorem tjoins_long2 (sa : Option Addr) (sl sc : Nat) (ss : List Int) (ca : Option Addr) (cl cc : Nat) (cs : List Int) (sa2 : Option Addr) (sl2 sc2 : Nat) (ss2 : List Int) (ca2 : Option Addr) (cl2 cc2 : Nat) (ds : List Int) (side fr upto : Int) (w : World) (h : IntsAt w sa sl ss) (hcp : Capped sl sc) (hc : IntsAt w ca cl cs) (hcq : Capped cl cc) (h2 : IntsAt w sa2 sl2 ss2) (hcp2 : Capped sl2 sc2) (hd : IntsAt w ca2 cl2 ds) (hcq2 : Capped cl2 cc2) (hr : smallT sl cl = true) (hr2 : smallT sl2 cl2 = false) :
    Calls Try.prog 6 #[.agg #[.slice sa sl sc, .slice ca cl cc, .slice sa2 sl2 sc2, .slice ca2 cl2 cc2, .int .i64 side, .int .i64 fr, .int .i64 upto]] w fun e w' => e = .returned (.bool true) ∧ Below w.heap.size w w' := by
  obtain ⟨wA, hwA, J, z, n1⟩ := part_box w (.slice sa sl sc) (.slice ca cl cc) (.slice sa2 sl2 sc2) (.slice ca2 cl2 cc2) (.int .i64 side) (.int .i64 fr) (.int .i64 upto)
  obtain ⟨j0, j1, j2, j3, j4, -, -⟩ := J.out.see
  have C := Lib.hid (fun w1 => small_any sa sl sc ca cl cc w1 h.2.1 hc.2.1)
  have D := Lib.hid (fun w1 => small_any sa2 sl2 sc2 ca2 cl2 cc2 w1 h2.2.1 hd.2.1)
  rw [hr] at C
  rw [hr2] at D
  clear h hc h2 hd hr hr2
  go_enter Try.func6, Try.ntmps6
  go_upto_region 1 with (fail)
  rw [hwA.out]
  go_wp2_with fail
  refine (C.out _).mono ?_
  rintro e w0 ⟨rfl, hb0⟩
  obtain ⟨k0, k1, k2, k3, k4, -, -⟩ := (J.out.kept hb0).see
  go_wp2_with fail
  refine (D.out _).mono ?_
  rintro e w1 ⟨rfl, hb1⟩
  have b1 := Lib.hid (hb0.trans (hb1.mono hb0.size))
  clear hb0 hb1 C D j0 j1 j2 j3 j4
  clear k0 k1 k2 k3 k4
  go_wp2_with fail
  refine (awake04_any _).mono ?_
  rintro e w9 ⟨rfl, hb9⟩
  go_wp2_with fail
  go_ret
  exact ⟨rfl, z.out.trans ((b1.out.trans (hb9.mono b1.out.size)).mono z.out.size)⟩

set_option maxRecDepth 100000 in
set_option maxHeartbeats 8000000 in
theorem tjoins_wrong1 (sa : Option Addr) (sl sc : Nat) (ss : List Int) (ca : Option Addr) (cl cc : Nat) (cs : List Int) (sa2 : Option Addr) (sl2 sc2 : Nat) (ss2 : List Int) (ca2 : Option Addr) (cl2 cc2 : Nat) (ds : List Int) (side fr upto : Int) (w : World) (h : IntsAt w sa sl ss) (hcp : Capped sl sc) (hc : IntsAt w ca cl cs) (hcq : Capped cl cc) (h2 : IntsAt w sa2 sl2 ss2) (hcp2 : Capped sl2 sc2) (hd : IntsAt w ca2 cl2 ds) (hcq2 : Capped cl2 cc2) (hr : smallT sl cl = true) (hr2 : smallT sl2 cl2 = true) (hT : rightT ss cl = false) :
    Calls Try.prog 6 #[.agg #[.slice sa sl sc, .slice ca cl cc, .slice sa2 sl2 sc2, .slice ca2 cl2 cc2, .int .i64 side, .int .i64 fr, .int .i64 upto]] w fun e w' => e = .returned (.bool true) ∧ Below w.heap.size w w' := by
  obtain ⟨wA, hwA, J, z, n1⟩ := part_box w (.slice sa sl sc) (.slice ca cl cc) (.slice sa2 sl2 sc2) (.slice ca2 cl2 cc2) (.int .i64 side) (.int .i64 fr) (.int .i64 upto)
  obtain ⟨j0, j1, j2, j3, j4, -, -⟩ := J.out.see
  have C := Lib.hid (fun w1 => small_any sa sl sc ca cl cc w1 h.2.1 hc.2.1)
  have D := Lib.hid (fun w1 => small_any sa2 sl2 sc2 ca2 cl2 cc2 w1 h2.2.1 hd.2.1)
  rw [hr] at C
  rw [hr2] at D
  have hs : sl ≤ 50 ∧ cl ≤ 600 := by simpa [smallT] using hr
  have hs2 : sl2 ≤ 50 ∧ cl2 ≤ 600 := by simpa [smallT] using hr2
  have H := Lib.hid (fun w1 (hb : Below wA.heap.size wA w1) => (h.kept z.out).kept hb)
  have HC := Lib.hid (fun w1 (hb : Below wA.heap.size wA w1) => (hc.kept z.out).kept hb)
  have H2 := Lib.hid (fun w1 (hb : Below wA.heap.size wA w1) => (h2.kept z.out).kept hb)
  have HD := Lib.hid (fun w1 (hb : Below wA.heap.size wA w1) => (hd.kept z.out).kept hb)
  have HS := Lib.hid hs
  have HS2 := Lib.hid hs2
  have R1 := Lib.hid (fun w1 (hb : Below wA.heap.size wA w1) => refright_any sa sl sc ss ca cl cc w1 (H.out _ hb) (by have := HS.out.2; omega))
  have R2 := Lib.hid (fun w1 (hb : Below wA.heap.size wA w1) => refright_any sa2 sl2 sc2 ss2 ca2 cl2 cc2 w1 (H2.out _ hb) (by have := HS2.out.2; omega))
  have KJ := Lib.hid (fun w1 (hb : Below wA.heap.size wA w1) => joinT_wrong1 sa sl sc ss ca cl cc sa2 sl2 sc2 ss2 ca2 cl2 cc2 side w1 (H.out _ hb) (by have := HS.out.2; omega) (H2.out _ hb) (by have := HS2.out.2; omega) hT)
  rw [hT] at R1
  clear h hc h2 hd hr hr2 hs hs2 hT
  go_enter Try.func6, Try.ntmps6
  go_upto_region 1 with (fail)
  rw [hwA.out]
  go_wp2_with fail
  refine (C.out _).mono ?_
  rintro e w0 ⟨rfl, hb0⟩
  obtain ⟨k0, k1, k2, k3, k4, -, -⟩ := (J.out.kept hb0).see
  go_wp2_with fail
  refine (D.out _).mono ?_
  rintro e w1 ⟨rfl, hb1⟩
  have b1 := Lib.hid (hb0.trans (hb1.mono hb0.size))
  clear hb0 hb1 C D j0 j1 j2 j3 j4
  clear k0 k1 k2 k3 k4
  obtain ⟨k0, k1, k2, k3, k4, -, -⟩ := (J.out.kept b1.out).see
  go_wp2_with fail
  refine (KJ.out _ b1.out).mono ?_
  rintro e w2 ⟨rfl, hb2⟩
  obtain ⟨w3, hw3, JN, x3, n3⟩ := grid_box w2 (.slice none 0 0) (.slice none 0 0)
  have r3 := hb2.trans (x3.out.mono hb2.size)
  have b3 := Lib.hid (b1.out.trans (r3.mono b1.out.size))
  clear k0 k1 k2 k3 k4
  clear hb2 r3
  go_upto_region 4 with (fail)
  rw [hw3.out]
  obtain ⟨k0, k1, k2, k3, k4, -, -⟩ := (J.out.kept b3.out).see
  go_wp2_with fail
  refine (R1.out _ b3.out).mono ?_
  rintro e w4 ⟨rfl, hb4⟩
  have b4 := Lib.hid (b3.out.trans (hb4.mono b3.out.size))
  have JN4 := Lib.hid (JN.out.kept hb4)
  clear k0 k1 k2 k3 k4
  clear hb4 JN
  obtain ⟨m0, m1, -, -⟩ := JN4.out.see
  go_wp2_with fail
  refine (awake04_any _).mono ?_
  rintro e w9 ⟨rfl, hb9⟩
  go_wp2_with fail
  go_ret
  exact ⟨rfl, z.out.trans ((b4.out.trans (hb9.mono b4.out.size)).mono z.out.size)⟩

set_option maxRecDepth 100000 in
set_option maxHeartbeats 8000000 in
theorem tjoins_wrong2 (sa : Option Addr) (sl sc : Nat) (ss : List Int) (ca : Option Addr) (cl cc : Nat) (cs : List Int) (sa2 : Option Addr) (sl2 sc2 : Nat) (ss2 : List Int) (ca2 : Option Addr) (cl2 cc2 : Nat) (ds : List Int) (side fr upto : Int) (w : World) (h : IntsAt w sa sl ss) (hcp : Capped sl sc) (hc : IntsAt w ca cl cs) (hcq : Capped cl cc) (h2 : IntsAt w sa2 sl2 ss2) (hcp2 : Capped sl2 sc2) (hd : IntsAt w ca2 cl2 ds) (hcq2 : Capped cl2 cc2) (hr : smallT sl cl = true) (hr2 : smallT sl2 cl2 = true) (hT : rightT ss cl = true) (hT2 : rightT ss2 cl2 = false) :
    Calls Try.prog 6 #[.agg #[.slice sa sl sc, .slice ca cl cc, .slice sa2 sl2 sc2, .slice ca2 cl2 cc2, .int .i64 side, .int .i64 fr, .int .i64 upto]] w fun e w' => e = .returned (.bool true) ∧ Below w.heap.size w w' := by
  obtain ⟨wA, hwA, J, z, n1⟩ := part_box w (.slice sa sl sc) (.slice ca cl cc) (.slice sa2 sl2 sc2) (.slice ca2 cl2 cc2) (.int .i64 side) (.int .i64 fr) (.int .i64 upto)
  obtain ⟨j0, j1, j2, j3, j4, -, -⟩ := J.out.see
  have C := Lib.hid (fun w1 => small_any sa sl sc ca cl cc w1 h.2.1 hc.2.1)
  have D := Lib.hid (fun w1 => small_any sa2 sl2 sc2 ca2 cl2 cc2 w1 h2.2.1 hd.2.1)
  rw [hr] at C
  rw [hr2] at D
  have hs : sl ≤ 50 ∧ cl ≤ 600 := by simpa [smallT] using hr
  have hs2 : sl2 ≤ 50 ∧ cl2 ≤ 600 := by simpa [smallT] using hr2
  have H := Lib.hid (fun w1 (hb : Below wA.heap.size wA w1) => (h.kept z.out).kept hb)
  have HC := Lib.hid (fun w1 (hb : Below wA.heap.size wA w1) => (hc.kept z.out).kept hb)
  have H2 := Lib.hid (fun w1 (hb : Below wA.heap.size wA w1) => (h2.kept z.out).kept hb)
  have HD := Lib.hid (fun w1 (hb : Below wA.heap.size wA w1) => (hd.kept z.out).kept hb)
  have HS := Lib.hid hs
  have HS2 := Lib.hid hs2
  have R1 := Lib.hid (fun w1 (hb : Below wA.heap.size wA w1) => refright_any sa sl sc ss ca cl cc w1 (H.out _ hb) (by have := HS.out.2; omega))
  have R2 := Lib.hid (fun w1 (hb : Below wA.heap.size wA w1) => refright_any sa2 sl2 sc2 ss2 ca2 cl2 cc2 w1 (H2.out _ hb) (by have := HS2.out.2; omega))
  have KJ := Lib.hid (fun w1 (hb : Below wA.heap.size wA w1) => joinT_wrong2 sa sl sc ss ca cl cc sa2 sl2 sc2 ss2 ca2 cl2 cc2 side w1 (H.out _ hb) (by have := HS.out.2; omega) (H2.out _ hb) (by have := HS2.out.2; omega) hT hT2)
  rw [hT] at R1
  rw [hT2] at R2
  clear h hc h2 hd hr hr2 hs hs2 hT hT2
  go_enter Try.func6, Try.ntmps6
  go_upto_region 1 with (fail)
  rw [hwA.out]
  go_wp2_with fail
  refine (C.out _).mono ?_
  rintro e w0 ⟨rfl, hb0⟩
  obtain ⟨k0, k1, k2, k3, k4, -, -⟩ := (J.out.kept hb0).see
  go_wp2_with fail
  refine (D.out _).mono ?_
  rintro e w1 ⟨rfl, hb1⟩
  have b1 := Lib.hid (hb0.trans (hb1.mono hb0.size))
  clear hb0 hb1 C D j0 j1 j2 j3 j4
  clear k0 k1 k2 k3 k4
  obtain ⟨k0, k1, k2, k3, k4, -, -⟩ := (J.out.kept b1.out).see
  go_wp2_with fail
  refine (KJ.out _ b1.out).mono ?_
  rintro e w2 ⟨rfl, hb2⟩
  obtain ⟨w3, hw3, JN, x3, n3⟩ := grid_box w2 (.slice none 0 0) (.slice none 0 0)
  have r3 := hb2.trans (x3.out.mono hb2.size)
  have b3 := Lib.hid (b1.out.trans (r3.mono b1.out.size))
  clear k0 k1 k2 k3 k4
  clear hb2 r3
  go_upto_region 4 with (fail)
  rw [hw3.out]
  obtain ⟨k0, k1, k2, k3, k4, -, -⟩ := (J.out.kept b3.out).see
  go_wp2_with fail
  refine (R1.out _ b3.out).mono ?_
  rintro e w4 ⟨rfl, hb4⟩
  have b4 := Lib.hid (b3.out.trans (hb4.mono b3.out.size))
  have JN4 := Lib.hid (JN.out.kept hb4)
  clear k0 k1 k2 k3 k4
  clear hb4 JN
  obtain ⟨k0, k1, k2, k3, k4, -, -⟩ := (J.out.kept b4.out).see
  go_wp2_with fail
  refine (R2.out _ b4.out).mono ?_
  rintro e w5 ⟨rfl, hb5⟩
  have b5 := Lib.hid (b4.out.trans (hb5.mono b4.out.size))
  have JN5 := Lib.hid (JN4.out.kept hb5)
  clear k0 k1 k2 k3 k4
  clear hb5 JN4
  obtain ⟨m0, m1, -, -⟩ := JN5.out.see
  go_wp2_with fail
  refine (awake04_any _).mono ?_
  rintro e w9 ⟨rfl, hb9⟩
  go_wp2_with fail
  go_ret
  exact ⟨rfl, z.out.trans ((b5.out.trans (hb9.mono b5.out.size)).mono z.out.size)⟩

set_option maxRecDepth 100000 in
set_option maxHeartbeats 8000000 in
theorem tjoins_none (sa : Option Addr) (sl sc : Nat) (ss : List Int) (ca : Option Addr) (cl cc : Nat) (cs : List Int) (sa2 : Option Addr) (sl2 sc2 : Nat) (ss2 : List Int) (ca2 : Option Addr) (cl2 cc2 : Nat) (ds : List Int) (side fr upto : Int) (w : World) (h : IntsAt w sa sl ss) (hcp : Capped sl sc) (hc : IntsAt w ca cl cs) (hcq : Capped cl cc) (h2 : IntsAt w sa2 sl2 ss2) (hcp2 : Capped sl2 sc2) (hd : IntsAt w ca2 cl2 ds) (hcq2 : Capped cl2 cc2) (hr : smallT sl cl = true) (hr2 : smallT sl2 cl2 = true) (hT : rightT ss cl = true) (hT2 : rightT ss2 cl2 = true) (x : Int) (hx : x ≠ 0) (HX : ∀ w1, Below w.heap.size w w1 → Calls Try.prog 28 #[.slice sa sl sc, .slice sa2 sl2 sc2, .int .i64 side] w1 (NilE w1 x)) :
    Calls Try.prog 6 #[.agg #[.slice sa sl sc, .slice ca cl cc, .slice sa2 sl2 sc2, .slice ca2 cl2 cc2, .int .i64 side, .int .i64 fr, .int .i64 upto]] w fun e w' => e = .returned (.bool true) ∧ Below w.heap.size w w' := by
  obtain ⟨wA, hwA, J, z, n1⟩ := part_box w (.slice sa sl sc) (.slice ca cl cc) (.slice sa2 sl2 sc2) (.slice ca2 cl2 cc2) (.int .i64 side) (.int .i64 fr) (.int .i64 upto)
  obtain ⟨j0, j1, j2, j3, j4, -, -⟩ := J.out.see
  have C := Lib.hid (fun w1 => small_any sa sl sc ca cl cc w1 h.2.1 hc.2.1)
  have D := Lib.hid (fun w1 => small_any sa2 sl2 sc2 ca2 cl2 cc2 w1 h2.2.1 hd.2.1)
  rw [hr] at C
  rw [hr2] at D
  have hs : sl ≤ 50 ∧ cl ≤ 600 := by simpa [smallT] using hr
  have hs2 : sl2 ≤ 50 ∧ cl2 ≤ 600 := by simpa [smallT] using hr2
  have H := Lib.hid (fun w1 (hb : Below wA.heap.size wA w1) => (h.kept z.out).kept hb)
  have HC := Lib.hid (fun w1 (hb : Below wA.heap.size wA w1) => (hc.kept z.out).kept hb)
  have H2 := Lib.hid (fun w1 (hb : Below wA.heap.size wA w1) => (h2.kept z.out).kept hb)
  have HD := Lib.hid (fun w1 (hb : Below wA.heap.size wA w1) => (hd.kept z.out).kept hb)
  have HS := Lib.hid hs
  have HS2 := Lib.hid hs2
  have R1 := Lib.hid (fun w1 (hb : Below wA.heap.size wA w1) => refright_any sa sl sc ss ca cl cc w1 (H.out _ hb) (by have := HS.out.2; omega))
  have R2 := Lib.hid (fun w1 (hb : Below wA.heap.size wA w1) => refright_any sa2 sl2 sc2 ss2 ca2 cl2 cc2 w1 (H2.out _ hb) (by have := HS2.out.2; omega))
  have HX' := Lib.hid (fun w1 (hb : Below wA.heap.size wA w1) => HX w1 (z.out.trans (hb.mono z.out.size)))
  have KJ := Lib.hid (fun w1 (hb : Below wA.heap.size wA w1) => joinT_none sa sl sc ss ca cl cc sa2 sl2 sc2 ss2 ca2 cl2 cc2 side x w1 (H.out _ hb) (by have := HS.out.2; omega) (H2.out _ hb) (by have := HS2.out.2; omega) hT hT2 hx (fun w2 hb2 => HX'.out w2 (hb.trans (hb2.mono hb.size))))
  rw [hT] at R1
  rw [hT2] at R2
  have hx0 : decide (x = 0) = false := by simpa using hx
  clear h hc h2 hd hr hr2 hs hs2 hT hT2 HX
  go_enter Try.func6, Try.ntmps6
  go_upto_region 1 with (fail)
  rw [hwA.out]
  go_wp2_with fail
  refine (C.out _).mono ?_
  rintro e w0 ⟨rfl, hb0⟩
  obtain ⟨k0, k1, k2, k3, k4, -, -⟩ := (J.out.kept hb0).see
  go_wp2_with fail
  refine (D.out _).mono ?_
  rintro e w1 ⟨rfl, hb1⟩
  have b1 := Lib.hid (hb0.trans (hb1.mono hb0.size))
  clear hb0 hb1 C D j0 j1 j2 j3 j4
  clear k0 k1 k2 k3 k4
  obtain ⟨k0, k1, k2, k3, k4, -, -⟩ := (J.out.kept b1.out).see
  go_wp2_with fail
  refine (KJ.out _ b1.out).mono ?_
  rintro e w2 ⟨rfl, hb2⟩
  obtain ⟨w3, hw3, JN, x3, n3⟩ := grid_box w2 (.slice none 0 0) (.slice none 0 0)
  have r3 := hb2.trans (x3.out.mono hb2.size)
  have b3 := Lib.hid (b1.out.trans (r3.mono b1.out.size))
  clear k0 k1 k2 k3 k4
  clear hb2 r3
  go_upto_region 4 with (fail)
  rw [hw3.out]
  obtain ⟨k0, k1, k2, k3, k4, -, -⟩ := (J.out.kept b3.out).see
  go_wp2_with fail
  refine (R1.out _ b3.out).mono ?_
  rintro e w4 ⟨rfl, hb4⟩
  have b4 := Lib.hid (b3.out.trans (hb4.mono b3.out.size))
  have JN4 := Lib.hid (JN.out.kept hb4)
  clear k0 k1 k2 k3 k4
  clear hb4 JN
  obtain ⟨k0, k1, k2, k3, k4, -, -⟩ := (J.out.kept b4.out).see
  go_wp2_with fail
  refine (R2.out _ b4.out).mono ?_
  rintro e w5 ⟨rfl, hb5⟩
  have b5 := Lib.hid (b4.out.trans (hb5.mono b4.out.size))
  have JN5 := Lib.hid (JN4.out.kept hb5)
  clear k0 k1 k2 k3 k4
  clear hb5 JN4
  obtain ⟨k0, k1, k2, k3, k4, -, -⟩ := (J.out.kept b5.out).see
  go_wp2_with fail
  refine (HX'.out _ b5.out).mono ?_
  rintro e w6 ⟨rfl, hb6⟩
  have b6 := Lib.hid (b5.out.trans (hb6.mono b5.out.size))
  clear k0 k1 k2 k3 k4
  obtain ⟨m0, m1, -, -⟩ := (JN5.out.kept hb6).see
  go_wp2_with fail
  refine (awake04_any _).mono ?_
  rintro e w9 ⟨rfl, hb9⟩
  go_wp2_with fail
  go_ret
  exact ⟨rfl, z.out.trans ((b6.out.trans (hb9.mono b6.out.size)).mono z.out.size)⟩

end Go.Proofs.Ytjphdkbhkkpeoaa
