/-
  The walk of the statement TensorCuts.
-/
import Derived.Test.YtjphdkbhkkpeoaaPartC
import Derived.Deep.RegionHeld3
namespace Go.Proofs.Ytjphdkbhkkpeoaa
open Go.RowKit
set_option linter.unusedVariables false
set_option linter.unusedSimpArgs false

set_option maxRecDepth 100000 in
set_option maxHeartbeats 8000000 in
theorem tcuts_long (sa : Option Addr) (sl sc : Nat) (ss : List Int) (ca : Option Addr) (cl cc : Nat) (cs : List Int) (sa2 : Option Addr) (sl2 sc2 : Nat) (ss2 : List Int) (ca2 : Option Addr) (cl2 cc2 : Nat) (ds : List Int) (side fr upto : Int) (w : World) (h : IntsAt w sa sl ss ∧ Capped sl sc) (hc : IntsAt w ca cl cs ∧ Capped cl cc) (hr : smallT sl cl = false) :
    Calls Try.prog 5 #[.agg #[.slice sa sl sc, .slice ca cl cc, .slice sa2 sl2 sc2, .slice ca2 cl2 cc2, .int .i64 side, .int .i64 fr, .int .i64 upto]] w fun e w' => e = .returned (.bool true) ∧ Below w.heap.size w w' := by
  obtain ⟨⟨h, hcp⟩, hcx⟩ := And.intro h hc
  obtain ⟨hc, hcq⟩ := hcx
  obtain ⟨wA, hwA, J, z, n1⟩ := part_box w (.slice sa sl sc) (.slice ca cl cc) (.slice sa2 sl2 sc2) (.slice ca2 cl2 cc2) (.int .i64 side) (.int .i64 fr) (.int .i64 upto)
  obtain ⟨j0, j1, -, -, j4, j5, j6⟩ := J.out.see
  have C := Lib.hid (fun w1 => small_any sa sl sc ca cl cc w1 h.2.1 hc.2.1)
  rw [hr] at C
  clear h hc hr
  go_enter Try.func5, Try.ntmps5
  go_upto_region 1 with (fail)
  rw [hwA.out]
  go_wp2_with fail
  refine (C.out _).mono ?_
  rintro e w0 ⟨rfl, hb0⟩
  have b0 := Lib.hid hb0
  clear hb0 C j0 j1 j4 j5 j6
  obtain ⟨k0, k1, -, -, k4, k5, k6⟩ := (J.out.kept b0.out).see
  go_wp2_with fail
  refine (awake04_any _).mono ?_
  rintro e w9 ⟨rfl, hb9⟩
  go_wp2_with fail
  go_ret
  exact ⟨rfl, z.out.trans ((b0.out.trans (hb9.mono b0.out.size)).mono z.out.size)⟩

set_option maxRecDepth 100000 in
set_option maxHeartbeats 8000000 in
theorem tcuts_wrong (sa : Option Addr) (sl sc : Nat) (ss : List Int) (ca : Option Addr) (cl cc : Nat) (cs : List Int) (sa2 : Option Addr) (sl2 sc2 : Nat) (ss2 : List Int) (ca2 : Option Addr) (cl2 cc2 : Nat) (ds : List Int) (side fr upto : Int) (w : World) (h : IntsAt w sa sl ss ∧ Capped sl sc) (hc : IntsAt w ca cl cs ∧ Capped cl cc) (hr : smallT sl cl = true) (hT : rightT ss cl = false) :
    Calls Try.prog 5 #[.agg #[.slice sa sl sc, .slice ca cl cc, .slice sa2 sl2 sc2, .slice ca2 cl2 cc2, .int .i64 side, .int .i64 fr, .int .i64 upto]] w fun e w' => e = .returned (.bool true) ∧ Below w.heap.size w w' := by
  obtain ⟨⟨h, hcp⟩, hcx⟩ := And.intro h hc
  obtain ⟨hc, hcq⟩ := hcx
  obtain ⟨wA, hwA, J, z, n1⟩ := part_box w (.slice sa sl sc) (.slice ca cl cc) (.slice sa2 sl2 sc2) (.slice ca2 cl2 cc2) (.int .i64 side) (.int .i64 fr) (.int .i64 upto)
  obtain ⟨j0, j1, -, -, j4, j5, j6⟩ := J.out.see
  have C := Lib.hid (fun w1 => small_any sa sl sc ca cl cc w1 h.2.1 hc.2.1)
  rw [hr] at C
  have hs : sl ≤ 50 ∧ cl ≤ 600 := by simpa [smallT] using hr
  have H := Lib.hid (fun w1 (hb : Below wA.heap.size wA w1) => (h.kept z.out).kept hb)
  have HC := Lib.hid (fun w1 (hb : Below wA.heap.size wA w1) => (hc.kept z.out).kept hb)
  have HS := Lib.hid hs
  have R1 := Lib.hid (fun w1 (hb : Below wA.heap.size wA w1) => refright_any sa sl sc ss ca cl cc w1 (H.out _ hb) (by have := HS.out.2; omega))
  have KC := Lib.hid (fun w1 (hb : Below wA.heap.size wA w1) => cutT_wrong sa sl sc ss ca cl cc side fr upto w1 (H.out _ hb) (by have := HS.out.2; omega) hT)
  rw [hT] at R1
  clear h hc hr hs hT
  go_enter Try.func5, Try.ntmps5
  go_upto_region 1 with (fail)
  rw [hwA.out]
  go_wp2_with fail
  refine (C.out _).mono ?_
  rintro e w0 ⟨rfl, hb0⟩
  have b0 := Lib.hid hb0
  clear hb0 C j0 j1 j4 j5 j6
  obtain ⟨k0, k1, -, -, k4, k5, k6⟩ := (J.out.kept b0.out).see
  go_wp2_with fail
  refine (KC.out _ b0.out).mono ?_
  rintro e w2 ⟨rfl, hb2⟩
  obtain ⟨w3, hw3, JN, x3, n3⟩ := grid_box w2 (.slice none 0 0) (.slice none 0 0)
  have r3 := hb2.trans (x3.out.mono hb2.size)
  have b3 := Lib.hid (b0.out.trans (r3.mono b0.out.size))
  clear k0 k1 k4 k5 k6 hb2 r3
  go_upto_region 4 with (fail)
  rw [hw3.out]
  obtain ⟨k0, k1, -, -, k4, k5, k6⟩ := (J.out.kept b3.out).see
  go_wp2_with fail
  refine (R1.out _ b3.out).mono ?_
  rintro e w4 ⟨rfl, hb4⟩
  have b4 := Lib.hid (b3.out.trans (hb4.mono b3.out.size))
  have JN4 := Lib.hid (JN.out.kept hb4)
  clear k0 k1 k4 k5 k6 hb4 JN
  obtain ⟨m0, m1, -, -⟩ := JN4.out.see
  go_wp2_with fail
  refine (awake04_any _).mono ?_
  rintro e w9 ⟨rfl, hb9⟩
  go_wp2_with fail
  go_ret
  exact ⟨rfl, z.out.trans ((b4.out.trans (hb9.mono b4.out.size)).mono z.out.size)⟩

set_option maxRecDepth 100000 in
set_option maxHeartbeats 8000000 in
theorem tcuts_none (sa : Option Addr) (sl sc : Nat) (ss : List Int) (ca : Option Addr) (cl cc : Nat) (cs : List Int) (sa2 : Option Addr) (sl2 sc2 : Nat) (ss2 : List Int) (ca2 : Option Addr) (cl2 cc2 : Nat) (ds : List Int) (side fr upto : Int) (w : World) (h : IntsAt w sa sl ss ∧ Capped sl sc) (hc : IntsAt w ca cl cs ∧ Capped cl cc) (hr : smallT sl cl = true) (hT : rightT ss cl = true) (HX : ∀ w1, Below w.heap.size w w1 → Calls Try.prog 23 #[.slice sa sl sc, .int .i64 side, .int .i64 fr, .int .i64 upto] w1 (NilE w1 11)) :
    Calls Try.prog 5 #[.agg #[.slice sa sl sc, .slice ca cl cc, .slice sa2 sl2 sc2, .slice ca2 cl2 cc2, .int .i64 side, .int .i64 fr, .int .i64 upto]] w fun e w' => e = .returned (.bool true) ∧ Below w.heap.size w w' := by
  obtain ⟨⟨h, hcp⟩, hcx⟩ := And.intro h hc
  obtain ⟨hc, hcq⟩ := hcx
  obtain ⟨wA, hwA, J, z, n1⟩ := part_box w (.slice sa sl sc) (.slice ca cl cc) (.slice sa2 sl2 sc2) (.slice ca2 cl2 cc2) (.int .i64 side) (.int .i64 fr) (.int .i64 upto)
  obtain ⟨j0, j1, -, -, j4, j5, j6⟩ := J.out.see
  have C := Lib.hid (fun w1 => small_any sa sl sc ca cl cc w1 h.2.1 hc.2.1)
  rw [hr] at C
  have hs : sl ≤ 50 ∧ cl ≤ 600 := by simpa [smallT] using hr
  have H := Lib.hid (fun w1 (hb : Below wA.heap.size wA w1) => (h.kept z.out).kept hb)
  have HC := Lib.hid (fun w1 (hb : Below wA.heap.size wA w1) => (hc.kept z.out).kept hb)
  have HS := Lib.hid hs
  have R1 := Lib.hid (fun w1 (hb : Below wA.heap.size wA w1) => refright_any sa sl sc ss ca cl cc w1 (H.out _ hb) (by have := HS.out.2; omega))
  have HX' := Lib.hid (fun w1 (hb : Below wA.heap.size wA w1) => HX w1 (z.out.trans (hb.mono z.out.size)))
  have KC := Lib.hid (fun w1 (hb : Below wA.heap.size wA w1) => cutT_none sa sl sc ss ca cl cc side fr upto 11 w1 (H.out _ hb) (by have := HS.out.2; omega) hT (by omega) (fun w2 hb2 => HX'.out w2 (hb.trans (hb2.mono hb.size))))
  rw [hT] at R1
  clear h hc hr hs hT HX
  go_enter Try.func5, Try.ntmps5
  go_upto_region 1 with (fail)
  rw [hwA.out]
  go_wp2_with fail
  refine (C.out _).mono ?_
  rintro e w0 ⟨rfl, hb0⟩
  have b0 := Lib.hid hb0
  clear hb0 C j0 j1 j4 j5 j6
  obtain ⟨k0, k1, -, -, k4, k5, k6⟩ := (J.out.kept b0.out).see
  go_wp2_with fail
  refine (KC.out _ b0.out).mono ?_
  rintro e w2 ⟨rfl, hb2⟩
  obtain ⟨w3, hw3, JN, x3, n3⟩ := grid_box w2 (.slice none 0 0) (.slice none 0 0)
  have r3 := hb2.trans (x3.out.mono hb2.size)
  have b3 := Lib.hid (b0.out.trans (r3.mono b0.out.size))
  clear k0 k1 k4 k5 k6 hb2 r3
  go_upto_region 4 with (fail)
  rw [hw3.out]
  obtain ⟨k0, k1, -, -, k4, k5, k6⟩ := (J.out.kept b3.out).see
  go_wp2_with fail
  refine (R1.out _ b3.out).mono ?_
  rintro e w4 ⟨rfl, hb4⟩
  have b4 := Lib.hid (b3.out.trans (hb4.mono b3.out.size))
  have JN4 := Lib.hid (JN.out.kept hb4)
  clear k0 k1 k4 k5 k6 hb4 JN
  obtain ⟨m0, m1, -, -⟩ := JN4.out.see
  obtain ⟨k0, k1, -, -, k4, k5, k6⟩ := (J.out.kept b4.out).see
  go_wp2_with fail
  refine (HX'.out _ b4.out).mono ?_
  rintro e w5 ⟨rfl, hb5⟩
  have b5 := Lib.hid (b4.out.trans (hb5.mono b4.out.size))
  clear m0 m1 k0 k1 k4 k5 k6
  obtain ⟨m0, m1, -, -⟩ := (JN4.out.kept hb5).see
  go_wp2_with fail
  refine (awake04_any _).mono ?_
  rintro e w9 ⟨rfl, hb9⟩
  go_wp2_with fail
  go_ret
  exact ⟨rfl, z.out.trans ((b5.out.trans (hb9.mono b5.out.size)).mono z.out.size)⟩

set_option maxRecDepth 100000 in
set_option maxHeartbeats 8000000 in
theorem tcuts_ok (sa : Option Addr) (sl sc : Nat) (ss : List Int) (ca : Option Addr) (cl cc : Nat) (cs : List Int) (sa2 : Option Addr) (sl2 sc2 : Nat) (ss2 : List Int) (ca2 : Option Addr) (cl2 cc2 : Nat) (ds : List Int) (k f t x : Nat) (w : World) (h : IntsAt w sa sl ss ∧ Capped sl sc) (hc : IntsAt w ca cl cs ∧ Capped cl cc) (hr : smallT sl cl = true) (hT : rightT ss cl = true) (hk : k < sl) (h1 : f < t) (h2 : t ≤ x) (hx : ss.getD k 0 = x) :
    Calls Try.prog 5 #[.agg #[.slice sa sl sc, .slice ca cl cc, .slice sa2 sl2 sc2, .slice ca2 cl2 cc2, .int .i64 k, .int .i64 f, .int .i64 t]] w fun e w' => e = .returned (.bool true) ∧ Below w.heap.size w w' := by
  obtain ⟨⟨h, hcp⟩, hcx⟩ := And.intro h hc
  obtain ⟨hc, hcq⟩ := hcx
  obtain ⟨wA, hwA, J, z, n1⟩ := part_box w (.slice sa sl sc) (.slice ca cl cc) (.slice sa2 sl2 sc2) (.slice ca2 cl2 cc2) (.int .i64 k) (.int .i64 f) (.int .i64 t)
  obtain ⟨j0, j1, -, -, j4, j5, j6⟩ := J.out.see
  have C := Lib.hid (fun w1 => small_any sa sl sc ca cl cc w1 h.2.1 hc.2.1)
  rw [hr] at C
  have hs : sl ≤ 50 ∧ cl ≤ 600 := by simpa [smallT] using hr
  have H := Lib.hid (fun w1 (hb : Below wA.heap.size wA w1) => (h.kept z.out).kept hb)
  have HC := Lib.hid (fun w1 (hb : Below wA.heap.size wA w1) => (hc.kept z.out).kept hb)
  have HS := Lib.hid hs
  have R1 := Lib.hid (fun w1 (hb : Below wA.heap.size wA w1) => refright_any sa sl sc ss ca cl cc w1 (H.out _ hb) (by have := HS.out.2; omega))
  have hrs := (rightT_parts hT).1
  have hcl := (rightT_parts hT).2
  have hall := (rightS_parts hrs).2.2.1
  have hsl := h.1
  obtain ⟨p, hp⟩ : ∃ p : Nat, prodI (ss.drop (k + 1)) = p := ⟨(prodI (ss.drop (k + 1))).toNat, by have := prodI_pos (allR_drop hall (k + 1)); omega⟩
  obtain ⟨M, hM⟩ : ∃ M : Nat, prodI (ss.take k) = M := ⟨(prodI (ss.take k)).toNat, by have := prodI_pos (allR_take hall k); omega⟩
  obtain ⟨n, hn⟩ : ∃ n : Nat, n = x * p := ⟨_, rfl⟩
  obtain ⟨lo, hlo⟩ : ∃ n : Nat, n = f * p := ⟨_, rfl⟩
  obtain ⟨wd, hwd⟩ : ∃ n : Nat, n = (t - f) * p := ⟨_, rfl⟩
  have hL : cl = M * n := by
    rw [prodI_split ss k (by omega), hx, hp, hM] at hcl
    have e1 : ((M * n : Nat) : Int) = (M : Int) * ((x : Int) * (p : Int)) := by rw [hn]; simp
    omega
  have i1 : ss.getD k 0 * prodI (ss.drop (k + 1)) = n := by rw [hx, hp, hn]; simp
  have i2 : (f : Int) * prodI (ss.drop (k + 1)) = lo := by rw [hp, hlo]; simp
  have i3 : ((t : Int) - f) * prodI (ss.drop (k + 1)) = wd := by
    rw [hp, hwd, show ((t : Int) - f) = ((t - f : Nat) : Int) by omega]; simp
  have KC := Lib.hid (fun w1 (hb : Below wA.heap.size wA w1) => cutT_ok sa sl sc ss ca cl cc cs k f t n M lo wd w1 (H.out _ hb) hcp.1 hcp.2 (HC.out _ hb) hcq.1 hcq.2 (by have := HS.out.2; omega) hT hk (by omega) (by rw [hx]; omega) (by omega) i1 hM i2 i3)
  have SC := Lib.hid (fun w1 (hb : Below wA.heap.size wA w1) => cut_ok sa sl sc ss k f t w1 (H.out _ hb) hrs hk (by omega) (by rw [hx]; omega) (by omega))
  have RC := Lib.hid (fun w1 (hb : Below wA.heap.size wA w1) da dc (hd : IntsAt w1 da cl cs) => refcut_any sa sl sc ss da cl dc cs k f t x p M n lo wd w1 (H.out _ hb) hcp.1 hcp.2 hd (by have := HS.out.2; omega) hrs hk hx hp hM hL hn hlo hwd h1 h2)
  have CE := Lib.hid (fun w1 (hb : Below wA.heap.size wA w1) => cells_any sa sl sc ca cl cc cs w1 (HC.out _ hb) (by have := HS.out.2; omega))
  have hfc := Lib.hid hc.2.2.1
  have hfs := Lib.hid (h.2.2.1.set k ((t : Int) - f) (by have := (allR_getD hall k (by omega)).2; rw [hx] at this; omega) (by have := (allR_getD hall k (by omega)).2; rw [hx] at this; omega))
  have hMw : M * wd ≤ 1000 := by
    have h3 : wd ≤ n := by rw [hwd, hn]; exact Nat.mul_le_mul_right p (by omega)
    have h4 := Nat.mul_le_mul_left M h3
    have := hs.2
    omega
  have hfp := Lib.hid (cutP_fits (cs := cs) hc.2.2.1 n lo wd M)
  obtain ⟨sb, so, rfl, hcs⟩ : ∃ b off, sa = some ⟨b, off, none⟩ ∧ wA.cell? ⟨b, off + k, none⟩ = some (.int .i64 x) := by
    rcases (h.kept z.out).2.2.2 with h5 | ⟨b, off, ha, hcx⟩
    · omega
    · exact ⟨b, off, ha, by rw [hcx k hk, hx]⟩
  have CX := Lib.hid (fun w1 (hb : Below wA.heap.size wA w1) => cell_later hb hcs)
  rw [hT] at R1
  obtain ⟨S2, hS2⟩ : ∃ L, ss.set k ((t : Int) - f) = L := ⟨_, rfl⟩
  obtain ⟨P2, hP2⟩ : ∃ L, cutP cs n lo wd M = L := ⟨_, rfl⟩
  rw [hS2] at KC SC hfs
  rw [hP2] at KC RC hfp
  have d1 : decide ((k : Int) < 0) = false := decide_eq_false (by omega)
  have d2 : decide ((sl : Int) ≤ k) = false := decide_eq_false (by omega)
  have d2' : decide (sl ≤ k) = false := decide_eq_false (by omega)
  have d3 : decide ((f : Int) < 0) = false := decide_eq_false (by omega)
  have d4 : decide ((x : Int) < t) = false := decide_eq_false (by omega)
  have d4' : decide (x < t) = false := decide_eq_false (by omega)
  have HK := Lib.hid (show k < sl ∧ f < t ∧ t ≤ x from ⟨hk, h1, h2⟩)
  have hkl : (k : Int) < (sl : Int) := by omega
  have hs4 : sl ≤ 50 := HS.out.1
  clear h hc hr hs hT hrs hcl hall hsl hp hM hn hlo hwd hL i1 i2 i3 hcs hS2 hP2 hcp hcq hx
  go_enter Try.func5, Try.ntmps5
  go_upto_region 1 with (fail)
  rw [hwA.out]
  go_wp2_with fail
  refine (C.out _).mono ?_
  rintro e w0 ⟨rfl, hb0⟩
  have b0 := Lib.hid hb0
  clear hb0 C j0 j1 j4 j5 j6
  obtain ⟨k0, k1, -, -, k4, k5, k6⟩ := (J.out.kept b0.out).see
  go_wp2_with fail
  refine (KC.out _ b0.out).mono ?_
  rintro e w2 ⟨v', rfl, A, c, A', c', rfl, o1, o2, -, hb2⟩
  obtain ⟨w3, hw3, JN, x3, n3⟩ := grid_box w2 (.slice A sl c) (.slice A' (M * wd) c')
  have r3 := hb2.trans (x3.out.mono hb2.size)
  have b3 := Lib.hid (b0.out.trans (r3.mono b0.out.size))
  have gS3 := Lib.hid ((row_ints o1 (by omega) hfs.out).kept x3.out)
  have gC3 := Lib.hid ((row_ints o2 (by omega) hfp.out).kept x3.out)
  clear k0 k1 k4 k5 k6 hb2 r3 o1 o2
  go_upto_region 4 with (fail)
  rw [hw3.out]
  obtain ⟨k0, k1, -, -, k4, k5, k6⟩ := (J.out.kept b3.out).see
  go_wp2_with fail
  refine (R1.out _ b3.out).mono ?_
  rintro e w4 ⟨rfl, hb4⟩
  have b4 := Lib.hid (b3.out.trans (hb4.mono b3.out.size))
  have JN4 := Lib.hid (JN.out.kept hb4)
  have gS4 := Lib.hid (gS3.out.kept hb4)
  have gC4 := Lib.hid (gC3.out.kept hb4)
  clear k0 k1 k4 k5 k6 hb4 JN gS3 gC3
  obtain ⟨k0, k1, -, -, k4, k5, k6⟩ := (J.out.kept b4.out).see
  go_wp2_with fail
  refine (SC.out _ b4.out).mono ?_
  rintro e w5 ⟨A7, c7, rfl, o7, hb5⟩
  have b5 := Lib.hid (b4.out.trans (hb5.mono b4.out.size))
  have JN5 := Lib.hid (JN4.out.kept hb5)
  have gS5 := Lib.hid (gS4.out.kept hb5)
  have gC5 := Lib.hid (gC4.out.kept hb5)
  have gN5 := Lib.hid (row_ints o7 (by omega) hfs.out)
  clear k0 k1 k4 k5 k6 hb5 JN4 gS4 gC4 o7
  obtain ⟨k0, k1, -, -, k4, k5, k6⟩ := (J.out.kept b5.out).see
  have cx := CX.out _ b5.out
  go_wp2_with fail
  go_quiet (fail)
  go_wp2_with fail
  obtain ⟨W, hW⟩ : ∃ W, w5.drewN nq = W := ⟨_, rfl⟩
  have eW := Lib.hid (show Below w5.heap.size w5 W by rw [← hW]; exact below_drewN' (Below.refl _ _) _)
  rw [hW]
  have bW := Lib.hid (b5.out.trans (eW.out.mono b5.out.size))
  have JNW := Lib.hid (JN5.out.kept eW.out)
  have gSW := Lib.hid (gS5.out.kept eW.out)
  have gCW := Lib.hid (gC5.out.kept eW.out)
  have gNW := Lib.hid (gN5.out.kept eW.out)
  clear hW k0 k1 k4 k5 k6 cx JN5 gS5 gC5 gN5 d1 d2 d2' d3 d4 d4'
  have EQ := Lib.hid (fun w1 (hb : Below W.heap.size W w1) => (show Calls Try.prog 18 #[.slice A sl c, .slice A7 sl c7] w1 fun e w' => e = .returned (.bool true) ∧ ∃ n, w' = w1.drewN n by
    have := equal_any A sl c S2 A7 sl c7 S2 w1 (gSW.out.kept hb) (gNW.out.kept hb)
    rw [sameL_self] at this
    exact this))
  have SA := Lib.hid (fun w1 (hb : Below W.heap.size W w1) da dc (hd : IntsAt w1 da (M * wd) P2) => lsame_any A sl c A' (M * wd) c' P2 da dc w1 (gCW.out.kept hb) hd)
  have SK := Lib.hid (fun w' (hb : Below W.heap.size W w') => (⟨(JNW.out.kept hb).see.1, (JNW.out.kept hb).see.2.1, (J.out.kept (bW.out.trans (hb.mono bW.out.size))).see.1, (J.out.kept (bW.out.trans (hb.mono bW.out.size))).see.2.1, (J.out.kept (bW.out.trans (hb.mono bW.out.size))).see.2.2.2.2⟩ :
    w'.cell? ⟨w2.heap.size, 0, none⟩ = some (.slice A sl c) ∧ w'.cell? ⟨w2.heap.size, 1, none⟩ = some (.slice A' (M * wd) c') ∧ w'.cell? ⟨w.heap.size, 0, none⟩ = some (.slice (some ⟨sb, so, none⟩) sl sc) ∧ w'.cell? ⟨w.heap.size, 1, none⟩ = some (.slice ca cl cc) ∧ w'.cell? ⟨w.heap.size, 4, none⟩ = some (.int .i64 k) ∧ w'.cell? ⟨w.heap.size, 5, none⟩ = some (.int .i64 f) ∧ w'.cell? ⟨w.heap.size, 6, none⟩ = some (.int .i64 t)))
  have t0 := Lib.hid (Below.refl W.heap.size W).drew
  have u0 := SK.out _ (Below.refl _ _)
  have u1 := SK.out _ t0.out
  go_region_held3 (fun w' => w'.cell? ⟨w2.heap.size, 0, none⟩ = some (.slice A sl c) ∧ w'.cell? ⟨w2.heap.size, 1, none⟩ = some (.slice A' (M * wd) c') ∧ w'.cell? ⟨w.heap.size, 0, none⟩ = some (.slice (some ⟨sb, so, none⟩) sl sc) ∧ w'.cell? ⟨w.heap.size, 1, none⟩ = some (.slice ca cl cc) ∧ w'.cell? ⟨w.heap.size, 4, none⟩ = some (.int .i64 k) ∧ w'.cell? ⟨w.heap.size, 5, none⟩ = some (.int .i64 f) ∧ w'.cell? ⟨w.heap.size, 6, none⟩ = some (.int .i64 t))
    (first | exact u0 | exact u1 | exact u2 | exact u3 | exact u4 | exact u5 | exact u6 | go_keep)
    ((first
      | (go_at_call 18; refine (EQ.out _ t0.out).mono ?_; rintro e x2 ⟨rfl, m2, hx2⟩; have e2 := Lib.hid (show Below W.heap.size W x2 by rw [hx2]; exact below_drewN' t0.out m2); have u2 := SK.out x2 e2.out; clear hx2)
      | (go_at_call 26; refine (CE.out _ (bW.out.trans (e2.out.mono bW.out.size))).mono ?_; rintro e x3 ⟨A8, c8, rfl, o8, hb8⟩; have e3 := Lib.hid (e2.out.trans (hb8.mono e2.out.size)); have u3 := SK.out x3 e3.out; have g8 := Lib.hid (row_ints o8 (by have := HS.out.2; omega) hfc.out); clear o8 hb8)
      | (go_at_call 25; refine (RC.out _ (bW.out.trans (e3.out.mono bW.out.size)) _ _ g8.out).mono ?_; rintro e x4 ⟨A9, c9, rfl, o9, hb9⟩; have e4 := Lib.hid (e3.out.trans (hb9.mono e3.out.size)); have u4 := SK.out x4 e4.out; have g9 := Lib.hid (row_ints o9 (by omega) hfp.out); clear o9 hb9)
      | (go_at_call 24; refine (SA.out _ e4.out _ _ g9.out).mono ?_; rintro e x5 ⟨rfl, hb10⟩; have e5 := Lib.hid (e4.out.trans (hb10.mono e4.out.size)); have u5 := SK.out x5 e5.out; clear hb10)
      | (go_at_call 9; refine (awake04_any _).mono ?_; rintro e x6 ⟨rfl, hb11⟩; have e6 := Lib.hid (e5.out.trans (hb11.mono e5.out.size)); have u6 := SK.out x6 e6.out; clear hb11)))
  rename_i hHeld
  clear hHeld u0 u1 u2 u3 u4 u5 u6
  have fin := Lib.hid (z.out.trans ((bW.out.trans (e6.out.mono bW.out.size)).mono z.out.size))
  go_wp2_with fail
  go_ret
  exact ⟨rfl, fin.out⟩

set_option maxHeartbeats 400000 in
theorem tensorCuts_walk (sa : Option Addr) (sl sc : Nat) (ss : List Int) (ca : Option Addr) (cl cc : Nat) (cs : List Int) (sa2 : Option Addr) (sl2 sc2 : Nat) (ss2 : List Int) (ca2 : Option Addr) (cl2 cc2 : Nat) (ds : List Int) (side fr upto : Int) (w : World) (h : IntsAt w sa sl ss ∧ Capped sl sc) (hc : IntsAt w ca cl cs ∧ Capped cl cc) (h2 : IntsAt w sa2 sl2 ss2 ∧ Capped sl2 sc2) (hd : IntsAt w ca2 cl2 ds ∧ Capped cl2 cc2) (i1 : In64I side) (i2 : In64I fr) (i3 : In64I upto) :
    Calls Try.prog 5 #[.agg #[.slice sa sl sc, .slice ca cl cc, .slice sa2 sl2 sc2, .slice ca2 cl2 cc2, .int .i64 side, .int .i64 fr, .int .i64 upto]] w fun e w' => e = .returned (.bool true) ∧ Below w.heap.size w w' := by
  cases b : smallT sl cl
  · exact tcuts_long sa sl sc ss ca cl cc cs sa2 sl2 sc2 ss2 ca2 cl2 cc2 ds side fr upto w h hc b
  cases hT : rightT ss cl
  · exact tcuts_wrong sa sl sc ss ca cl cc cs sa2 sl2 sc2 ss2 ca2 cl2 cc2 ds side fr upto w h hc b hT
  have hrs := (rightT_parts hT).1
  cases hD : hasD sl side
  · exact tcuts_none sa sl sc ss ca cl cc cs sa2 sl2 sc2 ss2 ca2 cl2 cc2 ds side fr upto w h hc b hT (fun w1 hb => cut_side sa sl sc ss side fr upto w1 (h.1.kept hb) hrs hD)
  obtain ⟨k, hk, rfl⟩ := hasD_nat hD
  by_cases hP : 0 ≤ fr ∧ upto ≤ ss.getD k 0 ∧ fr < upto
  · have hx := (allR_getD (rightS_parts hrs).2.2.1 k (by have := h.1.1; omega)).1
    obtain ⟨x, hx2⟩ : ∃ x : Nat, ss.getD k 0 = x := ⟨(ss.getD k 0).toNat, by omega⟩
    obtain ⟨f, rfl⟩ : ∃ f : Nat, fr = f := ⟨fr.toNat, by omega⟩
    obtain ⟨t, rfl⟩ : ∃ t : Nat, upto = t := ⟨upto.toNat, by omega⟩
    rw [hx2] at hP
    exact tcuts_ok sa sl sc ss ca cl cc cs sa2 sl2 sc2 ss2 ca2 cl2 cc2 ds k f t x w h hc b hT hk (by omega) (by omega) hx2
  · exact tcuts_none sa sl sc ss ca cl cc cs sa2 sl2 sc2 ss2 ca2 cl2 cc2 ds k fr upto w h hc b hT (fun w1 hb => cut_part sa sl sc ss k fr upto w1 (h.1.kept hb) hrs hk hP)
end Go.Proofs.Ytjphdkbhkkpeoaa
