/-
  The walk of the statement TensorCells.
-/
import Derived.Test.YtjphdkbhkkpeoaaTenI
namespace Go.Proofs.Ytjphdkbhkkpeoaa
open Go.RowKit
set_option linter.unusedVariables false
set_option linter.unusedSimpArgs false

set_option maxRecDepth 100000 in
set_option maxHeartbeats 8000000 in
theorem cells_long (sa : Option Addr) (sl sc : Nat) (ss : List Int) (ca : Option Addr) (cl cc : Nat) (cs : List Int) (ta : Option Addr) (tl tc : Nat) (ts : List Int) (v : Int) (w : World) (h : IntsAt w sa sl ss) (hc : IntsAt w ca cl cs) (ht : IntsAt w ta tl ts) (hr : smallT sl cl = false) :
    Calls Try.prog 4 #[.agg #[.slice sa sl sc, .slice ca cl cc], .slice ta tl tc, .int .i64 v] w fun e w' => e = .returned (.bool true) ∧ Below w.heap.size w w' := by
  obtain ⟨wA, hwA, J, z, n1⟩ := grid_box w (.slice sa sl sc) (.slice ca cl cc)
  have C := small_any sa sl sc ca cl cc wA h.2.1 hc.2.1
  rw [hr] at C
  have C1 := Lib.hid C
  clear C
  obtain ⟨j0, j1, -, -⟩ := J.out.see
  clear h hc ht hr
  go_enter Try.func4, Try.ntmps4
  go_upto_region 1 with (fail)
  rw [hwA.out]
  go_wp2_with fail
  refine C1.out.mono ?_
  rintro e w0 ⟨rfl, hb0⟩
  go_wp2_with fail
  refine (awake04_any _).mono ?_
  rintro e w9 ⟨rfl, hb9⟩
  go_wp2_with fail
  go_ret
  exact ⟨rfl, z.out.trans ((hb0.trans (hb9.mono hb0.size)).mono z.out.size)⟩

set_option maxRecDepth 100000 in
set_option maxHeartbeats 8000000 in
theorem cells_many (sa : Option Addr) (sl sc : Nat) (ss : List Int) (ca : Option Addr) (cl cc : Nat) (cs : List Int) (ta : Option Addr) (tl tc : Nat) (ts : List Int) (v : Int) (w : World) (h : IntsAt w sa sl ss) (hc : IntsAt w ca cl cs) (ht : IntsAt w ta tl ts) (hr : smallT sl cl = true) (hm : 50 < tl) :
    Calls Try.prog 4 #[.agg #[.slice sa sl sc, .slice ca cl cc], .slice ta tl tc, .int .i64 v] w fun e w' => e = .returned (.bool true) ∧ Below w.heap.size w w' := by
  obtain ⟨wA, hwA, J, z, n1⟩ := grid_box w (.slice sa sl sc) (.slice ca cl cc)
  have C := small_any sa sl sc ca cl cc wA h.2.1 hc.2.1
  rw [hr] at C
  have C1 := Lib.hid C
  clear C
  obtain ⟨j0, j1, -, -⟩ := J.out.see
  have hm2 : ¬ (tl : Int) ≤ 50 := by omega
  have hm3 := ht.2.1
  clear h hc ht hr
  go_enter Try.func4, Try.ntmps4
  go_upto_region 1 with (fail)
  rw [hwA.out]
  go_wp2_with fail
  refine C1.out.mono ?_
  rintro e w0 ⟨rfl, hb0⟩
  go_wp2_with fail
  refine (awake04_any _).mono ?_
  rintro e w9 ⟨rfl, hb9⟩
  go_wp2_with fail
  go_ret
  exact ⟨rfl, z.out.trans ((hb0.trans (hb9.mono hb0.size)).mono z.out.size)⟩

set_option maxRecDepth 100000 in
set_option maxHeartbeats 8000000 in
theorem cells_wrong (sa : Option Addr) (sl sc : Nat) (ss : List Int) (ca : Option Addr) (cl cc : Nat) (cs : List Int) (ta : Option Addr) (tl tc : Nat) (ts : List Int) (v : Int) (w : World) (h : IntsAt w sa sl ss) (hc : IntsAt w ca cl cs) (ht : IntsAt w ta tl ts) (hr : smallT sl cl = true) (hm : tl ≤ 50) (hT : rightT ss cl = false) :
    Calls Try.prog 4 #[.agg #[.slice sa sl sc, .slice ca cl cc], .slice ta tl tc, .int .i64 v] w fun e w' => e = .returned (.bool true) ∧ Below w.heap.size w w' := by
  obtain ⟨wA, hwA, J, z, n1⟩ := grid_box w (.slice sa sl sc) (.slice ca cl cc)
  have C := small_any sa sl sc ca cl cc wA h.2.1 hc.2.1
  rw [hr] at C
  have C1 := Lib.hid C
  clear C
  obtain ⟨j0, j1, -, -⟩ := J.out.see
  have hs : sl ≤ 50 ∧ cl ≤ 600 := by simpa [smallT] using hr
  have H := Lib.hid (fun w1 (hb : Below wA.heap.size wA w1) => (h.kept z.out).kept hb)
  have HC := Lib.hid (fun w1 (hb : Below wA.heap.size wA w1) => (hc.kept z.out).kept hb)
  have HT := Lib.hid (fun w1 (hb : Below wA.heap.size wA w1) => (ht.kept z.out).kept hb)
  have HS := Lib.hid hs
  have hcl := Lib.hid hc.1
  have hfc := Lib.hid hc.2.2.1
  clear h hc ht hr hs

  have hE2 : tplaceE ss cl ts = 20 := (tplace_no hT).2.symm
  have hE3 : tplaceE ss cl ts ≠ 0 := by rw [hE2]; omega
  have G := Lib.hid (fun w1 (hb : Below wA.heap.size wA w1) => tget_none sa sl sc ss ca cl cc ta tl tc ts w1 (H.out _ hb) (by have := HS.out.2; omega) (HT.out _ hb) hE3)
  have K := Lib.hid (fun w1 (hb : Below wA.heap.size wA w1) => twith_none sa sl sc ss ca cl cc ta tl tc ts v w1 (H.out _ hb) (by have := HS.out.2; omega) (HT.out _ hb) hE3)
  have R := Lib.hid (fun w1 (hb : Below wA.heap.size wA w1) => refright_any sa sl sc ss ca cl cc w1 (H.out _ hb) (by have := HS.out.2; omega))
  rw [hE2] at G K
  rw [hT] at R
  clear hE2 hE3 hT
  go_enter Try.func4, Try.ntmps4
  go_upto_region 1 with (fail)
  rw [hwA.out]
  go_wp2_with fail
  refine C1.out.mono ?_
  rintro e w0 ⟨rfl, hb0⟩
  have hb0' := Lib.hid hb0
  obtain ⟨k0, k1, -, -⟩ := (J.out.kept hb0).see
  clear C1 hb0
  go_wp2_with fail
  refine (G.out _ hb0'.out).mono ?_
  rintro e w1 ⟨rfl, hb1⟩
  have b1 := Lib.hid (hb0'.out.trans (hb1.mono hb0'.out.size))
  clear k0 k1 hb1
  obtain ⟨k0, k1, -, -⟩ := (J.out.kept b1.out).see
  go_wp2_with fail
  refine (K.out _ b1.out).mono ?_
  rintro e w2 ⟨rfl, hb2⟩
  obtain ⟨w3, hw3, JN, x3, n3⟩ := grid_box w2 (.slice none 0 0) (.slice none 0 0)
  have r3 := hb2.trans (x3.out.mono hb2.size)
  have b3 := Lib.hid (b1.out.trans (r3.mono b1.out.size))
  clear k0 k1 hb2 r3
  go_upto_region 5 with (fail)
  rw [hw3.out]
  obtain ⟨k0, k1, -, -⟩ := (J.out.kept b3.out).see
  go_wp2_with fail
  refine (R.out _ b3.out).mono ?_
  rintro e w4 ⟨rfl, hb4⟩
  have b4 := Lib.hid (b3.out.trans (hb4.mono b3.out.size))
  obtain ⟨m0, m1, -, -⟩ := (JN.out.kept hb4).see
  have hb4' := Lib.hid hb4
  clear k0 k1 hb4
  go_wp2_with fail
  refine (awake04_any _).mono ?_
  rintro e w9 ⟨rfl, hb9⟩
  go_wp2_with fail
  go_ret
  exact ⟨rfl, z.out.trans ((b4.out.trans (hb9.mono b4.out.size)).mono z.out.size)⟩

set_option maxRecDepth 100000 in
set_option maxHeartbeats 8000000 in
theorem cells_none (sa : Option Addr) (sl sc : Nat) (ss : List Int) (ca : Option Addr) (cl cc : Nat) (cs : List Int) (ta : Option Addr) (tl tc : Nat) (ts : List Int) (v : Int) (w : World) (h : IntsAt w sa sl ss) (hc : IntsAt w ca cl cs) (ht : IntsAt w ta tl ts) (hr : smallT sl cl = true) (hm : tl ≤ 50) (hT : rightT ss cl = true) (hE : placeE ss ts ≠ 0) :
    Calls Try.prog 4 #[.agg #[.slice sa sl sc, .slice ca cl cc], .slice ta tl tc, .int .i64 v] w fun e w' => e = .returned (.bool true) ∧ Below w.heap.size w w' := by
  obtain ⟨wA, hwA, J, z, n1⟩ := grid_box w (.slice sa sl sc) (.slice ca cl cc)
  have C := small_any sa sl sc ca cl cc wA h.2.1 hc.2.1
  rw [hr] at C
  have C1 := Lib.hid C
  clear C
  obtain ⟨j0, j1, -, -⟩ := J.out.see
  have hs : sl ≤ 50 ∧ cl ≤ 600 := by simpa [smallT] using hr
  have H := Lib.hid (fun w1 (hb : Below wA.heap.size wA w1) => (h.kept z.out).kept hb)
  have HC := Lib.hid (fun w1 (hb : Below wA.heap.size wA w1) => (hc.kept z.out).kept hb)
  have HT := Lib.hid (fun w1 (hb : Below wA.heap.size wA w1) => (ht.kept z.out).kept hb)
  have HS := Lib.hid hs
  have hcl := Lib.hid hc.1
  have hfc := Lib.hid hc.2.2.1
  clear h hc ht hr hs

  have hE2 : tplaceE ss cl ts = placeE ss ts := (tplace_yes hT).2.symm
  have hE3 : tplaceE ss cl ts ≠ 0 := by rw [hE2]; exact hE
  have G := Lib.hid (fun w1 (hb : Below wA.heap.size wA w1) => tget_none sa sl sc ss ca cl cc ta tl tc ts w1 (H.out _ hb) (by have := HS.out.2; omega) (HT.out _ hb) hE3)
  have K := Lib.hid (fun w1 (hb : Below wA.heap.size wA w1) => twith_none sa sl sc ss ca cl cc ta tl tc ts v w1 (H.out _ hb) (by have := HS.out.2; omega) (HT.out _ hb) hE3)
  have R := Lib.hid (fun w1 (hb : Below wA.heap.size wA w1) => refright_any sa sl sc ss ca cl cc w1 (H.out _ hb) (by have := HS.out.2; omega))
  have P := Lib.hid (fun w1 (hb : Below wA.heap.size wA w1) => place_any sa sl sc ss ta tl tc ts w1 (H.out _ hb) (HT.out _ hb))
  obtain ⟨q, hq⟩ : ∃ q, placeE ss ts = q := ⟨_, rfl⟩
  obtain ⟨p, hp⟩ : ∃ p, placeN ss ts = p := ⟨_, rfl⟩
  rw [hE2, hq] at G K
  rw [hq] at hE
  rw [hq, hp] at P
  rw [hT] at R
  clear hE2 hE3 hq hp hT
  go_enter Try.func4, Try.ntmps4
  go_upto_region 1 with (fail)
  rw [hwA.out]
  go_wp2_with fail
  refine C1.out.mono ?_
  rintro e w0 ⟨rfl, hb0⟩
  have hb0' := Lib.hid hb0
  obtain ⟨k0, k1, -, -⟩ := (J.out.kept hb0).see
  clear C1 hb0
  go_wp2_with fail
  refine (G.out _ hb0'.out).mono ?_
  rintro e w1 ⟨rfl, hb1⟩
  have b1 := Lib.hid (hb0'.out.trans (hb1.mono hb0'.out.size))
  clear k0 k1 hb1
  obtain ⟨k0, k1, -, -⟩ := (J.out.kept b1.out).see
  go_wp2_with fail
  refine (K.out _ b1.out).mono ?_
  rintro e w2 ⟨rfl, hb2⟩
  obtain ⟨w3, hw3, JN, x3, n3⟩ := grid_box w2 (.slice none 0 0) (.slice none 0 0)
  have r3 := hb2.trans (x3.out.mono hb2.size)
  have b3 := Lib.hid (b1.out.trans (r3.mono b1.out.size))
  clear k0 k1 hb2 r3
  go_upto_region 5 with (fail)
  rw [hw3.out]
  obtain ⟨k0, k1, -, -⟩ := (J.out.kept b3.out).see
  go_wp2_with fail
  refine (R.out _ b3.out).mono ?_
  rintro e w4 ⟨rfl, hb4⟩
  have b4 := Lib.hid (b3.out.trans (hb4.mono b3.out.size))
  obtain ⟨m0, m1, -, -⟩ := (JN.out.kept hb4).see
  have hb4' := Lib.hid hb4
  clear k0 k1 hb4
  obtain ⟨k0, k1, -, -⟩ := (J.out.kept b4.out).see
  go_wp2_with fail
  refine (P.out _ b4.out).mono ?_
  rintro e w5 ⟨rfl, hb5⟩
  have b5 := Lib.hid (b4.out.trans (hb5.mono b4.out.size))
  clear m0 m1 k0 k1
  obtain ⟨m0, m1, -, -⟩ := ((JN.out.kept hb4'.out).kept hb5).see
  have hq0 : decide (q = 0) = false := by simpa using hE
  go_wp2_with fail
  refine (awake04_any _).mono ?_
  rintro e w9 ⟨rfl, hb9⟩
  go_wp2_with fail
  go_ret
  exact ⟨rfl, z.out.trans ((b5.out.trans (hb9.mono b5.out.size)).mono z.out.size)⟩

set_option maxRecDepth 100000 in
set_option maxHeartbeats 8000000 in
theorem cells_ok (sa : Option Addr) (sl sc : Nat) (ss : List Int) (ca : Option Addr) (cl cc : Nat) (cs : List Int) (ta : Option Addr) (tl tc : Nat) (ts : List Int) (v : Int) (w : World) (h : IntsAt w sa sl ss) (hc : IntsAt w ca cl cs) (ht : IntsAt w ta tl ts) (hr : smallT sl cl = true) (hm : tl ≤ 50) (hT : rightT ss cl = true) (n : Nat) (hE : placeE ss ts = 0) (hN : placeN ss ts = n) (hn : n < cl) (hv1 : -9223372036854775808 ≤ v) (hv2 : v ≤ 9223372036854775807) :
    Calls Try.prog 4 #[.agg #[.slice sa sl sc, .slice ca cl cc], .slice ta tl tc, .int .i64 v] w fun e w' => e = .returned (.bool true) ∧ Below w.heap.size w w' := by
  obtain ⟨wA, hwA, J, z, n1⟩ := grid_box w (.slice sa sl sc) (.slice ca cl cc)
  have C := small_any sa sl sc ca cl cc wA h.2.1 hc.2.1
  rw [hr] at C
  have C1 := Lib.hid C
  clear C
  obtain ⟨j0, j1, -, -⟩ := J.out.see
  have hs : sl ≤ 50 ∧ cl ≤ 600 := by simpa [smallT] using hr
  have H := Lib.hid (fun w1 (hb : Below wA.heap.size wA w1) => (h.kept z.out).kept hb)
  have HC := Lib.hid (fun w1 (hb : Below wA.heap.size wA w1) => (hc.kept z.out).kept hb)
  have HT := Lib.hid (fun w1 (hb : Below wA.heap.size wA w1) => (ht.kept z.out).kept hb)
  have HS := Lib.hid hs
  have hcl := Lib.hid hc.1
  have hfc := Lib.hid hc.2.2.1
  clear h hc ht hr hs
  have hE2 : tplaceE ss cl ts = 0 := by rw [← (tplace_yes hT).2]; exact hE
  have hN2 : tplaceN ss cl ts = n := by rw [← (tplace_yes hT).1]; exact hN
  have G := Lib.hid (fun w1 (hb : Below wA.heap.size wA w1) => tget_ok sa sl sc ss ca cl cc cs ta tl tc ts w1 (H.out _ hb) (HC.out _ hb) (HT.out _ hb) n hE2 hN2 hn)
  have K := Lib.hid (fun w1 (hb : Below wA.heap.size wA w1) => twith_ok sa sl sc ss ca cl cc cs ta tl tc ts v w1 (H.out _ hb) (by have := HS.out.1; omega) (HC.out _ hb) (by have := HS.out.2; omega) (HT.out _ hb) n hE2 hN2 hn)
  have R := Lib.hid (fun w1 (hb : Below wA.heap.size wA w1) => refright_any sa sl sc ss ca cl cc w1 (H.out _ hb) (by have := HS.out.2; omega))
  have P := Lib.hid (fun w1 (hb : Below wA.heap.size wA w1) => place_any sa sl sc ss ta tl tc ts w1 (H.out _ hb) (HT.out _ hb))
  obtain ⟨y, hy⟩ : ∃ y, cs.getD n 0 = y := ⟨_, rfl⟩
  rw [hy] at G
  rw [hE, hN] at P
  rw [hT] at R
  have hy' := Lib.hid hy
  have hv := Lib.hid (And.intro hv1 hv2)
  clear hE2 hN2 hT hE hN hy hv1 hv2
  go_enter Try.func4, Try.ntmps4
  go_upto_region 1 with (fail)
  rw [hwA.out]
  go_wp2_with fail
  refine C1.out.mono ?_
  rintro e w0 ⟨rfl, hb0⟩
  have hb0' := Lib.hid hb0
  obtain ⟨k0, k1, -, -⟩ := (J.out.kept hb0).see
  clear C1 hb0
  go_wp2_with fail
  refine (G.out _ hb0'.out).mono ?_
  rintro e w1 ⟨rfl, hb1⟩
  have b1 := Lib.hid (hb0'.out.trans (hb1.mono hb0'.out.size))
  clear k0 k1 hb1
  obtain ⟨k0, k1, -, -⟩ := (J.out.kept b1.out).see
  go_wp2_with fail
  refine (K.out _ b1.out).mono ?_
  rintro e w2 ⟨v', rfl, A5, d5, A6, d6, rfl, o5, o6, -, hb2⟩
  obtain ⟨w3, hw3, JN, x3, n3⟩ := grid_box w2 (.slice A5 sl d5) (.slice A6 cl d6)
  have r3 := hb2.trans (x3.out.mono hb2.size)
  have b3 := Lib.hid (b1.out.trans (r3.mono b1.out.size))
  have hS3 := Lib.hid ((row_ints o5 (by have := HS.out.1; omega) (H.out _ b1.out).2.2.1).kept x3.out)
  have hC3 := Lib.hid ((row_ints o6 (by have := HS.out.2; omega) (hfc.out.set n v hv.out.1 hv.out.2)).kept x3.out)
  clear k0 k1 hb2 r3 o5 o6
  go_upto_region 5 with (fail)
  rw [hw3.out]
  obtain ⟨k0, k1, -, -⟩ := (J.out.kept b3.out).see
  go_wp2_with fail
  refine (R.out _ b3.out).mono ?_
  rintro e w4 ⟨rfl, hb4⟩
  have b4 := Lib.hid (b3.out.trans (hb4.mono b3.out.size))
  have JN4 := Lib.hid (JN.out.kept hb4)
  have hS4 := Lib.hid (hS3.out.kept hb4)
  have hC4 := Lib.hid (hC3.out.kept hb4)
  clear k0 k1 hb4 hS3 hC3 JN
  obtain ⟨k0, k1, -, -⟩ := (J.out.kept b4.out).see
  go_wp2_with fail
  refine (P.out _ b4.out).mono ?_
  rintro e w5 ⟨rfl, hb5⟩
  have b5 := Lib.hid (b4.out.trans (hb5.mono b4.out.size))
  have JN5 := Lib.hid (JN4.out.kept hb5)
  have hS5 := Lib.hid (hS4.out.kept hb5)
  have hC5 := Lib.hid (hC4.out.kept hb5)
  have hCt := Lib.hid (HC.out _ b5.out)
  clear k0 k1 hb5 hS4 hC4 JN4
  obtain ⟨k0, k1, -, -⟩ := (J.out.kept b5.out).see
  obtain ⟨m0, m1, -, -⟩ := JN5.out.see
  have EQ := equal_any A5 sl d5 ss sa sl sc ss w5 hS5.out (H.out _ b5.out)
  rw [sameL_self] at EQ
  have EQ' := Lib.hid EQ
  obtain ⟨b, off, rfl, hct⟩ : ∃ b off, ca = some ⟨b, off, none⟩ ∧ ∀ j, j < cl → w5.cell? ⟨b, off + j, none⟩ = some (.int .i64 (cs.getD j 0)) := by
    rcases hCt.out.2.2.2 with h4 | ⟨b, off, ha, hcc⟩
    · omega
    · exact ⟨b, off, ha, hcc⟩
  obtain ⟨b', off', rfl, hcw⟩ : ∃ b off, A6 = some ⟨b, off, none⟩ ∧ ∀ j, j < cl → w5.cell? ⟨b, off + j, none⟩ = some (.int .i64 ((cs.set n v).getD j 0)) := by
    rcases hC5.out.2.2.2 with h4 | ⟨b, off, ha, hcc⟩
    · omega
    · exact ⟨b, off, ha, hcc⟩
  have cn : w5.cell? ⟨b, off + n, none⟩ = some (.int .i64 y) := by rw [hct n hn, hy'.out]
  have HCt := Lib.hid hct
  have HCw := Lib.hid hcw
  have h6 := HS.out.2
  clear hct hcw EQ
  have d1 : decide (cl ≤ n) = false := decide_eq_false (by omega)
  have d2 : decide ((cl : Int) ≤ n) = false := decide_eq_false (by omega)
  have d3 : decide ((n : Int) < 0) = false := decide_eq_false (by omega)
  go_wp2_with fail
  refine EQ'.out.mono ?_
  rintro e w6 ⟨rfl, nq, rfl⟩
  go_wp2_with fail
  obtain ⟨W, hW⟩ : ∃ W, w5.drewN nq = W := ⟨_, rfl⟩
  have qW := Lib.hid (show Below w5.heap.size w5 W by rw [← hW]; exact below_drewN' (Below.refl _ _) _)
  rw [hW]
  clear hW k0 k1 m0 m1 cn EQ'
  go_loopw [134] (fun i wr => ∃ k : Nat, k ≤ cl ∧ i = .int .i64 k ∧ Hid (∃ m, wr = W.drewN m)) (fun i _ => cl - (intOf i).toNat)
  case atStart => exact ⟨0, Nat.zero_le _, rfl, Lib.hid ⟨0, rfl⟩⟩
  case round =>
    obtain ⟨k, hk, rfl, hd⟩ := hrel
    obtain ⟨m, hd2⟩ := hd.out
    subst hd2
    have q7 := qW.out.trans ((below_drewN' (Below.refl W.heap.size W) m).mono qW.out.size)
    obtain ⟨WR, hWR⟩ : ∃ WR, W.drewN m = WR := ⟨_, rfl⟩
    rw [hWR] at q7 ⊢
    have q8 := Lib.hid q7
    obtain ⟨k0, k1, -, -⟩ := (J.out.kept (b5.out.trans (q7.mono b5.out.size))).see
    obtain ⟨m0, m1, -, -⟩ := (JN5.out.kept q7).see
    have hWR' := Lib.hid hWR
    clear hd hWR
    by_cases hlt : k < cl
    · have e1 := cell_later q7 (HCt.out k hlt)
      have e2 := cell_later q7 (HCw.out k hlt)
      clear q7
      by_cases hkn : k = n
      · subst hkn
        have e3 : (cs.set k v).getD k 0 = v := by simp [List.getD, List.getElem?_set_self (show k < cs.length by rw [hcl.out]; exact hlt)]
        rw [e3] at e2
        rw [hy'.out] at e1
        clear e3
        go_wp2_with fail
        go_quiet (fail)
        go_wp2_with fail
        go_roundw
        case rel => exact ⟨k + 1, by omega, by go_num, Lib.hid ⟨_, by rw [← hWR'.out, World.drewN_drewN]⟩⟩
        case measure => (simp [intOf]; try omega)
      · have e3 : (cs.set n v).getD k 0 = cs.getD k 0 := by simp [List.getD, List.getElem?_set_ne (Ne.symm hkn)]
        rw [e3] at e2
        generalize cs.getD k 0 = u at e1 e2
        have hkn' : ¬ (k : Int) = (n : Int) := by omega
        clear e3
        go_wp2_with fail
        go_quiet (fail)
        go_wp2_with fail
        go_roundw
        case rel => exact ⟨k + 1, by omega, by go_num, Lib.hid ⟨_, by rw [← hWR'.out, World.drewN_drewN]⟩⟩
        case measure => (simp [intOf]; try omega)
    · clear q7
      go_wp2_with fail
      refine (awake04_any _).mono ?_
      rintro e w9 ⟨rfl, hb9⟩
      go_wp2_with fail
      go_ret
      have qz := b5.out.trans (q8.out.mono b5.out.size)
      exact ⟨rfl, z.out.trans ((qz.trans (hb9.mono qz.size)).mono z.out.size)⟩

set_option maxHeartbeats 400000 in
theorem tensorCells_walk (sa : Option Addr) (sl sc : Nat) (ss : List Int) (ca : Option Addr) (cl cc : Nat) (cs : List Int) (ta : Option Addr) (tl tc : Nat) (ts : List Int) (v : Int) (w : World) (h : IntsAt w sa sl ss) (hc : IntsAt w ca cl cs) (ht : IntsAt w ta tl ts) (hv1 : -9223372036854775808 ≤ v) (hv2 : v ≤ 9223372036854775807) :
    Calls Try.prog 4 #[.agg #[.slice sa sl sc, .slice ca cl cc], .slice ta tl tc, .int .i64 v] w fun e w' => e = .returned (.bool true) ∧ Below w.heap.size w w' := by
  cases b : smallT sl cl
  · exact cells_long sa sl sc ss ca cl cc cs ta tl tc ts v w h hc ht b
  by_cases hm : 50 < tl
  · exact cells_many sa sl sc ss ca cl cc cs ta tl tc ts v w h hc ht b hm
  cases hT : rightT ss cl
  · exact cells_wrong sa sl sc ss ca cl cc cs ta tl tc ts v w h hc ht b (by omega) hT
  by_cases hE : placeE ss ts = 0
  · obtain ⟨n, hn, hN⟩ := tplace_cell (ss := ss) (n := cl) (l := ts) (by rw [← (tplace_yes hT).2]; exact hE)
    exact cells_ok sa sl sc ss ca cl cc cs ta tl tc ts v w h hc ht b (by omega) hT n hE (by rw [(tplace_yes hT).1]; exact hN) hn hv1 hv2
  · exact cells_none sa sl sc ss ca cl cc cs ta tl tc ts v w h hc ht b (by omega) hT hE
end Go.Proofs.Ytjphdkbhkkpeoaa
