/-
  The walk of the statement TensorJoins: two tensors that fit.
-/
import Derived.Test.YtjphdkbhkkpeoaaTJoinsA
import Derived.Deep.RegionWith
namespace Go.Proofs.Ytjphdkbhkkpeoaa
open Go.RowKit
set_option linter.unusedVariables false
set_option linter.unusedSimpArgs false

/-- A tensor in a box of its own: the box's block, the two slices, the world. -/
structure BoxQ where
  B : Nat
  A8 : Option Addr
  c8 : Nat
  A9 : Option Addr
  c9 : Nat
  W : World
def BoxP (w0 : World) (sl : Nat) (ss : List Int) (cl : Nat) (cs : List Int) (q : BoxQ) : Prop :=
  IntsAt q.W q.A8 sl ss ∧ IntsAt q.W q.A9 cl cs ∧ GAt q.W q.B (.slice q.A8 sl q.c8) (.slice q.A9 cl q.c9) ∧ Below w0.heap.size w0 q.W
theorem box_after {w0 w1 w7 : World} {sl cl c8 c9 : Nat} {ss cs : List Int} {A8 A9 : Option Addr} (hb : Below w0.heap.size w0 w1) (o8 : w7.ownsRow w1.heap.size 3 1 (.slice A8 sl c8) sl (ss.map (Value.int .i64))) (o9 : w7.ownsRow w1.heap.size 27 1 (.slice A9 cl c9) cl (cs.map (Value.int .i64))) (hb7 : Below w1.heap.size w1 w7)
    (h1 : sl ≤ 9223372036854775807) (h2 : cl ≤ 9223372036854775807) (f1 : Fits ss) (f2 : Fits cs) : BoxP w0 sl ss cl cs ⟨w7.heap.size, A8, c8, A9, c9, w7.alloc (.cells #[.slice A8 sl c8, .slice A9 cl c9] 26)⟩ := by
  have hb8 := hb.trans (hb7.mono hb.size)
  exact ⟨row_ints (o8.alloc _) h1 f1, row_ints (o9.alloc _) h2 f2, World.alloc_heap_new w7 _, hb8.alloc hb8.size _⟩
theorem box_before {w0 w1 w7 : World} {sl cl c8 c9 : Nat} {ss cs : List Int} {A8 A9 : Option Addr} {s c : Value} (hw : w0.heap.size < w1.heap.size) (hg : GAt w1 w0.heap.size s c) (hb : Below w0.heap.size w0 w1) (o8 : w7.ownsRow w1.heap.size 3 1 (.slice A8 sl c8) sl (ss.map (Value.int .i64))) (o9 : w7.ownsRow w1.heap.size 27 1 (.slice A9 cl c9) cl (cs.map (Value.int .i64))) (hb7 : Below w1.heap.size w1 w7)
    (h1 : sl ≤ 9223372036854775807) (h2 : cl ≤ 9223372036854775807) (f1 : Fits ss) (f2 : Fits cs) : BoxP w0 sl ss cl cs ⟨w0.heap.size, A8, c8, A9, c9, (w7.setCell ⟨w0.heap.size, 0, none⟩ (.slice A8 sl c8)).setCell ⟨w0.heap.size, 1, none⟩ (.slice A9 cl c9)⟩ := by
  have hb8 := hb.trans (hb7.mono hb.size)
  exact ⟨row_ints (row_far (row_far o8 hw) hw) h1 f1, row_ints (row_far (row_far o9 hw) hw) h2 f2, (hg.kept hb7).set _ _, (hb8.setCell (Nat.le_refl _) _).setCell (Nat.le_refl _) _⟩


set_option maxRecDepth 100000 in
set_option maxHeartbeats 8000000 in
theorem tjoins_ok (sa : Option Addr) (sl sc : Nat) (ss : List Int) (ca : Option Addr) (cl cc : Nat) (cs : List Int) (sa2 : Option Addr) (sl2 sc2 : Nat) (ss2 : List Int) (ca2 : Option Addr) (cl2 cc2 : Nat) (ds : List Int) (k x y : Nat) (fr upto : Int) (w : World) (h : IntsAt w sa sl ss) (hcp : Capped sl sc) (hc : IntsAt w ca cl cs) (hcq : Capped cl cc) (h2 : IntsAt w sa2 sl2 ss2) (hcp2 : Capped sl2 sc2) (hd : IntsAt w ca2 cl2 ds) (hcq2 : Capped cl2 cc2) (hr : smallT sl cl = true) (hr2 : smallT sl2 cl2 = true) (hT : rightT ss cl = true) (hT2 : rightT ss2 cl2 = true) (hk : k < sl) (hx : ss.getD k 0 = x) (hy : ss2.getD k 0 = y) (hx1 : 1 ≤ x) (hy1 : 1 ≤ y) (hss : ss2 = ss.set k y) (hS : rightS (ss.set k ((x : Int) + y)) = true) (HX : ∀ w1, Below w.heap.size w w1 → Calls Try.prog 28 #[.slice sa sl sc, .slice sa2 sl2 sc2, .int .i64 k] w1 (NewE w1 sl (ss.set k ((x : Int) + y)))) :
    Calls Try.prog 6 #[.agg #[.slice sa sl sc, .slice ca cl cc, .slice sa2 sl2 sc2, .slice ca2 cl2 cc2, .int .i64 k, .int .i64 fr, .int .i64 upto]] w fun e w' => e = .returned (.bool true) ∧ Below w.heap.size w w' := by
  obtain ⟨wA, hwA, J, z, n1⟩ := part_box w (.slice sa sl sc) (.slice ca cl cc) (.slice sa2 sl2 sc2) (.slice ca2 cl2 cc2) (.int .i64 k) (.int .i64 fr) (.int .i64 upto)
  obtain ⟨j0, j1, j2, j3, j4, -, -⟩ := J.out.see
  have C := Lib.hid (fun w1 => small_any sa sl sc ca cl cc w1 h.2.1 hc.2.1)
  have D := Lib.hid (fun w1 => small_any sa2 sl2 sc2 ca2 cl2 cc2 w1 h2.2.1 hd.2.1)
  rw [hr] at C
  rw [hr2] at D
  have hs : sl ≤ 50 ∧ cl ≤ 600 := by simpa [smallT] using hr
  have hs2 : sl2 ≤ 50 ∧ cl2 ≤ 600 := by simpa [smallT] using hr2
  have H := Lib.hid (fun w1 (hb : Below wA.heap.size wA w1) => (h.kept z.out).kept hb)
  have HC := Lib.hid (fun w1 (hb : Below wA.heap.size wA w1) => (hc.kept z.out).kept hb)
  have H2 := Lib.hid (fun w1 (hb : Below wA.heap.size wA w1) => (h2.kept z.out).kept hb)
  have HD := Lib.hid (fun w1 (hb : Below wA.heap.size wA w1) => (hd.kept z.out).kept hb)
  have HS := Lib.hid hs
  have HS2 := Lib.hid hs2
  have R1 := Lib.hid (fun w1 (hb : Below wA.heap.size wA w1) => refright_any sa sl sc ss ca cl cc w1 (H.out _ hb) (by have := HS.out.2; omega))
  have R2 := Lib.hid (fun w1 (hb : Below wA.heap.size wA w1) => refright_any sa2 sl2 sc2 ss2 ca2 cl2 cc2 w1 (H2.out _ hb) (by have := HS2.out.2; omega))
  have hrs := (rightT_parts hT).1
  have hcl := (rightT_parts hT).2
  have hrs2 := (rightT_parts hT2).1
  have hcl2 := (rightT_parts hT2).2
  have hall := (rightS_parts hrs).2.2.1
  have hsl := h.1
  have hsl2 : sl2 = sl := by have := h2.1; rw [hss, List.length_set] at this; omega
  obtain ⟨p, hp⟩ : ∃ p : Nat, prodI (ss.drop (k + 1)) = p := ⟨(prodI (ss.drop (k + 1))).toNat, by have := prodI_pos (allR_drop hall (k + 1)); omega⟩
  obtain ⟨M, hM⟩ : ∃ M : Nat, prodI (ss.take k) = M := ⟨(prodI (ss.take k)).toNat, by have := prodI_pos (allR_take hall k); omega⟩
  have hp1 : 1 ≤ p := by have := prodI_pos (allR_drop hall (k + 1)); omega
  have hM1 : 1 ≤ M := by have := prodI_pos (allR_take hall k); omega
  have hp2 : prodI (ss2.drop (k + 1)) = p := by rw [hss, set_drop, hp]
  have hM2 : prodI (ss2.take k) = M := by rw [hss, set_take, hM]
  obtain ⟨n, hn⟩ : ∃ n : Nat, n = x * p := ⟨_, rfl⟩
  obtain ⟨m, hm⟩ : ∃ m : Nat, m = y * p := ⟨_, rfl⟩
  have i1 : ss.getD k 0 * prodI (ss.drop (k + 1)) = n := by rw [hx, hp, hn]; simp
  have i2 : ss2.getD k 0 * prodI (ss2.drop (k + 1)) = m := by rw [hy, hp2, hm]; simp
  have hL : cl = M * n := by
    rw [prodI_split ss k (by omega), i1, hM] at hcl
    have e1 : ((M * n : Nat) : Int) = (M : Int) * (n : Int) := by simp
    omega
  have hL2 : cl2 = M * m := by
    rw [prodI_split ss2 k (by have := h2.1; omega), i2, hM2] at hcl2
    have e1 : ((M * m : Nat) : Int) = (M : Int) * (m : Int) := by simp
    omega
  -- the joined shape
  obtain ⟨S3, hS3⟩ : ∃ L, ss.set k ((x : Int) + y) = L := ⟨_, rfl⟩
  rw [hS3] at hS HX
  have s3g : S3.getD k 0 = ((x + y : Nat) : Int) := by rw [← hS3, set_get ss k _ (by omega)]; simp
  have s3d : prodI (S3.drop (k + 1)) = p := by rw [← hS3, set_drop, hp]
  have s3t : prodI (S3.take k) = M := by rw [← hS3, set_take, hM]
  have s3l : S3.length = sl := by rw [← hS3, List.length_set, hsl]
  have i3 : S3.getD k 0 * prodI (S3.drop (k + 1)) = ((n + m : Nat) : Int) := by
    have e0 : n + m = (x + y) * p := by rw [hn, hm, Nat.add_mul]
    rw [s3g, s3d, e0]; simp
  have hT3 : rightT S3 (M * (n + m)) = true := by
    refine (rightT_yes hS ?_).symm
    rw [prodI_split S3 k (by omega), i3, s3t]; simp
  have s3a : S3.set k ((x : Int) - 0) = ss := by
    rw [← hS3, List.set_set, Int.sub_zero, ← hx]; exact set_own ss k (by omega)
  have s3b : S3.set k (((x + y : Nat) : Int) - x) = ss2 := by
    rw [← hS3, List.set_set, hss]; congr 1; omega
  obtain ⟨P2, hP2⟩ : ∃ L, joinP cs ds n m M = L := ⟨_, rfl⟩
  have q1 : cutP P2 (n + m) 0 n M = cs := by rw [← hP2]; exact cut_first (by rw [hc.1, hL]) (by rw [hd.1, hL2])
  have q2 : cutP P2 (n + m) n m M = ds := by rw [← hP2]; exact cut_second (by rw [hc.1, hL]) (by rw [hd.1, hL2])
  have hfp : Fits P2 := by rw [← hP2]; exact joinP_fits hc.2.2.1 hd.2.2.1 n m M
  have hfs : Fits S3 := by
    intro q hq
    have := (rightS_parts hS).2.2.1
    unfold allR at this
    rw [List.all_eq_true] at this
    have := inR_bounds (this q hq)
    omega
  have hc3 : M * (n + m) ≤ 1200 := by rw [Nat.mul_add]; omega
  have HX' := Lib.hid (fun w1 (hb : Below wA.heap.size wA w1) => HX w1 (z.out.trans (hb.mono z.out.size)))
  have KJ := Lib.hid (fun w1 (hb : Below wA.heap.size wA w1) => joinT_ok sa sl sc ss ca cl cc cs sa2 sl2 sc2 ss2 ca2 cl2 cc2 ds k n m M S3 w1 (H.out _ hb) hcp (HC.out _ hb) hcq (H2.out _ hb) hcp2 (HD.out _ hb) hcq2 (by have := HS.out.2; omega) (by have := HS2.out.2; omega) hT hT2 hk (by omega) i1 hM i2 hM2 hL hL2 hM1 (fun w2 hb2 => HX'.out w2 (hb.trans (hb2.mono hb.size))))
  have RJ := Lib.hid (fun w1 (hb : Below wA.heap.size wA w1) da dc (hda : IntsAt w1 da cl cs) da2 dc2 (hda2 : IntsAt w1 da2 cl2 ds) => refjoin_any sa sl sc ss sa2 sl2 sc2 ss2 da cl dc cs da2 cl2 dc2 ds k x y p M n m w1 (H.out _ hb) hcp (H2.out _ hb) hda (by have := HS.out.2; omega) hda2 (by have := HS2.out.2; omega) hrs hk (by omega) hx hy hp hM hL hL2 hn hm hM1 hp1 hx1 hy1)
  have CE1 := Lib.hid (fun w1 (hb : Below wA.heap.size wA w1) => cells_any sa sl sc ca cl cc cs w1 (HC.out _ hb) (by have := HS.out.2; omega))
  have CE2 := Lib.hid (fun w1 (hb : Below wA.heap.size wA w1) => cells_any sa2 sl2 sc2 ca2 cl2 cc2 ds w1 (HD.out _ hb) (by have := HS2.out.2; omega))
  have KA := Lib.hid (fun A c A' c' w1 (g1 : IntsAt w1 A sl S3) (g2 : Capped sl c) (g3 : IntsAt w1 A' (M * (n + m)) P2) (g4 : Capped (M * (n + m)) c') => (show Calls Try.prog 22 #[.agg #[.slice A sl c, .slice A' (M * (n + m)) c'], .int .i64 k, .int .i64 0, .int .i64 x] w1 (OkT w1 sl ss cl cs) by
    have := cutT_ok A sl c S3 A' (M * (n + m)) c' P2 k 0 x (n + m) M 0 n w1 g1 g2.1 g2.2 g3 g4.1 g4.2 (by omega) hT3 hk (by omega) (by rw [s3g]; omega) (by omega) i3 s3t (by simp) (by rw [s3d, hn]; simp)
    rw [s3a, q1, ← hL] at this
    exact this))
  have KB := Lib.hid (fun A c A' c' w1 (g1 : IntsAt w1 A sl S3) (g2 : Capped sl c) (g3 : IntsAt w1 A' (M * (n + m)) P2) (g4 : Capped (M * (n + m)) c') => (show Calls Try.prog 22 #[.agg #[.slice A sl c, .slice A' (M * (n + m)) c'], .int .i64 k, .int .i64 x, .int .i64 ((x : Int) + (y : Int))] w1 (OkT w1 sl ss2 cl2 ds) by
    have := cutT_ok A sl c S3 A' (M * (n + m)) c' P2 k x ((x + y : Nat) : Int) (n + m) M n m w1 g1 g2.1 g2.2 g3 g4.1 g4.2 (by omega) hT3 hk (by omega) (by rw [s3g]; omega) (by omega) i3 s3t (by rw [s3d, hn]; simp) (by rw [s3d, hm, show (((x + y : Nat) : Int) - (x : Int)) = (y : Int) by omega]; simp)
    rw [s3b, q2, ← hL2, show (((x + y : Nat) : Int)) = (x : Int) + (y : Int) by omega] at this
    exact this))
  rw [hP2] at KJ RJ
  rw [hT] at R1
  rw [hT2] at R2
  have FS := Lib.hid (And.intro hfp hfs)
  have FS2 := Lib.hid (And.intro h.2.2.1 (And.intro hc.2.2.1 (And.intro h2.2.2.1 hd.2.2.1)))
  subst hsl2
  obtain ⟨sb, so, rfl, hcs⟩ : ∃ b off, sa = some ⟨b, off, none⟩ ∧ wA.cell? ⟨b, off + k, none⟩ = some (.int .i64 x) := by
    rcases (h.kept z.out).2.2.2 with h5 | ⟨b, off, ha, hcx⟩
    · omega
    · exact ⟨b, off, ha, by rw [hcx k hk, hx]⟩
  have CX := Lib.hid (fun w1 (hb : Below wA.heap.size wA w1) => cell_later hb hcs)
  have S3G := Lib.hid (show S3.getD k 0 = (x : Int) + (y : Int) by rw [s3g]; simp)
  have d1 : decide ((k : Int) < 0) = false := decide_eq_false (by omega)
  have d2 : decide ((sl2 : Int) ≤ k) = false := decide_eq_false (by omega)
  have d2' : decide (sl2 ≤ k) = false := decide_eq_false (by omega)
  have hkl : (k : Int) < (sl2 : Int) := by omega
  have hs4 : sl2 ≤ 50 := HS.out.1
  clear h hc h2 hd hr hr2 hs hs2 hT hT2 hrs hcl hrs2 hcl2 hall hsl hp hM hp2 hM2 hn hm i1 i2 hL hL2 hS3 s3g s3d s3t s3l i3 hT3 s3a s3b hP2 q1 q2 hfp hfs HX hx hy hss hS hcs hcp hcq hcp2 hcq2
  go_enter Try.func6, Try.ntmps6
  go_upto_region 1 with (fail)
  rw [hwA.out]
  go_wp2_with fail
  refine (C.out _).mono ?_
  rintro e w0 ⟨rfl, hb0⟩
  obtain ⟨k0, k1, k2, k3, k4, -, -⟩ := (J.out.kept hb0).see
  go_wp2_with fail
  refine (D.out _).mono ?_
  rintro e w1 ⟨rfl, hb1⟩
  have b1 := Lib.hid (hb0.trans (hb1.mono hb0.size))
  clear hb0 hb1 C D j0 j1 j2 j3 j4
  clear k0 k1 k2 k3 k4
  obtain ⟨k0, k1, k2, k3, k4, -, -⟩ := (J.out.kept b1.out).see
  go_wp2_with fail
  refine (KJ.out _ b1.out).mono ?_
  rintro e w2 ⟨v', rfl, A, c, A', c', rfl, o1, o2, -, hb2⟩
  obtain ⟨w3, hw3, JN, x3, n3⟩ := grid_box w2 (.slice A sl2 c) (.slice A' (M * (n + m)) c')
  have r3 := hb2.trans (x3.out.mono hb2.size)
  have b3 := Lib.hid (b1.out.trans (r3.mono b1.out.size))
  have GC := Lib.hid (And.intro (own_capped o1 (by omega)) (own_capped o2 (by omega)))
  have gS3 := Lib.hid ((row_ints o1 (by omega) FS.out.2).kept x3.out)
  have gC3 := Lib.hid ((row_ints o2 (by omega) FS.out.1).kept x3.out)
  clear k0 k1 k2 k3 k4
  clear hb2 r3 o1 o2
  go_upto_region 4 with (fail)
  rw [hw3.out]
  obtain ⟨k0, k1, k2, k3, k4, -, -⟩ := (J.out.kept b3.out).see
  go_wp2_with fail
  refine (R1.out _ b3.out).mono ?_
  rintro e w4 ⟨rfl, hb4⟩
  have b4 := Lib.hid (b3.out.trans (hb4.mono b3.out.size))
  have JN4 := Lib.hid (JN.out.kept hb4)
  have gS4 := Lib.hid (gS3.out.kept hb4)
  have gC4 := Lib.hid (gC3.out.kept hb4)
  clear k0 k1 k2 k3 k4
  clear hb4 JN gS3 gC3
  obtain ⟨k0, k1, k2, k3, k4, -, -⟩ := (J.out.kept b4.out).see
  go_wp2_with fail
  refine (R2.out _ b4.out).mono ?_
  rintro e w5 ⟨rfl, hb5⟩
  have b5 := Lib.hid (b4.out.trans (hb5.mono b4.out.size))
  have JN5 := Lib.hid (JN4.out.kept hb5)
  clear k0 k1 k2 k3 k4
  have gS5 := Lib.hid (gS4.out.kept hb5)
  have gC5 := Lib.hid (gC4.out.kept hb5)
  clear hb5 JN4 gS4 gC4
  obtain ⟨k0, k1, k2, k3, k4, -, -⟩ := (J.out.kept b5.out).see
  go_wp2_with fail
  refine (HX'.out _ b5.out).mono ?_
  rintro e w6 ⟨A7, c7, rfl, o7, hb6⟩
  have b6 := Lib.hid (b5.out.trans (hb6.mono b5.out.size))
  have JN6 := Lib.hid (JN5.out.kept hb6)
  have gS6 := Lib.hid (gS5.out.kept hb6)
  have gC6 := Lib.hid (gC5.out.kept hb6)
  have gN6 := Lib.hid (row_ints o7 (by omega) FS.out.2)
  clear k0 k1 k2 k3 k4
  clear hb6 JN5 gS5 gC5 o7
  obtain ⟨k0, k1, k2, k3, k4, -, -⟩ := (J.out.kept b6.out).see
  go_wp2_with fail
  have SK := Lib.hid (fun w' (hb : Below w6.heap.size w6 w') => (⟨(JN6.out.kept hb).see.1, (JN6.out.kept hb).see.2.1, (J.out.kept (b6.out.trans (hb.mono b6.out.size))).see.1, (J.out.kept (b6.out.trans (hb.mono b6.out.size))).see.2.2.2.2.1, CX.out _ (b6.out.trans (hb.mono b6.out.size))⟩ :
    w'.cell? ⟨w2.heap.size, 0, none⟩ = some (.slice A sl2 c) ∧ w'.cell? ⟨w2.heap.size, 1, none⟩ = some (.slice A' (M * (n + m)) c') ∧ w'.cell? ⟨w.heap.size, 0, none⟩ = some (.slice (some ⟨sb, so, none⟩) sl2 sc) ∧ w'.cell? ⟨w.heap.size, 4, none⟩ = some (.int .i64 k) ∧ w'.cell? ⟨sb, so + k, none⟩ = some (.int .i64 x)))
  have tB0 : Below w6.heap.size w6 (w6.alloc (.cells #[.slice none 0 0, .slice none 0 0] 26)) := (Below.refl _ _).alloc (Nat.le_refl _) _
  have tB := Lib.hid tB0.drew
  have gB := Lib.hid (show GAt (w6.alloc (.cells #[.slice none 0 0, .slice none 0 0] 26)).drew w6.heap.size (.slice none 0 0) (.slice none 0 0) from World.alloc_heap_new w6 _)
  have sB := Lib.hid (show w6.heap.size < (w6.alloc (.cells #[.slice none 0 0, .slice none 0 0] 26)).drew.heap.size by show w6.heap.size < (w6.alloc _).heap.size; simp)
  have t0 := Lib.hid (Below.refl w6.heap.size w6).drew
  have u3 := SK.out _ tB0
  have u4 := SK.out _ tB.out
  clear tB0
  have u0 := SK.out _ (Below.refl _ _)
  have u1 := SK.out _ t0.out
  have KA' := Lib.hid (fun w1 (hb : Below w6.heap.size w6 w1) => KA.out A c A' c' w1 (gS6.out.kept hb) GC.out.1 (gC6.out.kept hb) GC.out.2)
  clear k0 k1 k2 k3 k4
  have z1000 : M * (n + m) ≤ 9223372036854775807 := by omega
  have hcl6 : cl ≤ 600 := HS.out.2
  refine (wpIn_wide (n := 1)).1 ?_
  refine region_cut2 (ι := BoxQ) (BoxP w6 sl2 ss cl cs) (fun q a => ((((((((((((((((a.put (some 110) (.agg #[.slice A sl2 c, .slice A' (M * (n + m)) c'])).put (some 111) (.pointer (some ⟨w.heap.size, 4, none⟩))).put (some 112) (.int .i64 k)).put (some 113) (.pointer (some ⟨w.heap.size, 0, none⟩))).put (some 114) (.pointer (some ⟨w.heap.size, 0, none⟩))).put (some 115) (.slice (some ⟨sb, so, none⟩) sl2 sc)).put (some 116) (.pointer (some ⟨w.heap.size, 4, none⟩))).put (some 117) (.int .i64 k)).put (some 118) (.pointer (some ⟨sb, so + k, none⟩))).put (some 119) (.int .i64 x)).put (some 120) (.tuple #[.agg #[.slice q.A8 sl2 q.c8, .slice q.A9 cl q.c9], .int .i64 0])).put (some 109) (.tuple #[.agg #[.slice q.A8 sl2 q.c8, .slice q.A9 cl q.c9], .int .i64 0])).put (some 121) (.agg #[.slice q.A8 sl2 q.c8, .slice q.A9 cl q.c9])).put (some 122) (.int .i64 0)).put (some 7) (.pointer (some ⟨q.B, 0, none⟩))).put (some 8) (.int .i64 0)))
    (fun q => q.W) ?_ ?_
  · refine wpIn_wide.2 ?_
    go_region_held3 (fun w' => w'.cell? ⟨w2.heap.size, 0, none⟩ = some (.slice A sl2 c) ∧ w'.cell? ⟨w2.heap.size, 1, none⟩ = some (.slice A' (M * (n + m)) c') ∧ w'.cell? ⟨w.heap.size, 0, none⟩ = some (.slice (some ⟨sb, so, none⟩) sl2 sc) ∧ w'.cell? ⟨w.heap.size, 4, none⟩ = some (.int .i64 k) ∧ w'.cell? ⟨sb, so + k, none⟩ = some (.int .i64 x))
      (first | (with_reducible exact u0) | (with_reducible exact u1) | (with_reducible exact u2) | (with_reducible exact u3) | (with_reducible exact u4) | (with_reducible refine SK.out _ (e7.out.alloc e7.out.size _)) | (with_reducible refine SK.out _ ((e7.out.setCell (Nat.le_refl _) _).setCell (Nat.le_refl _) _)) | go_keep)
      ((first
        | (go_at_call 22; (with_reducible refine (KA'.out _ t0.out).mono ?_); go_must (rintro e w7 ⟨v', rfl, A8, c8, A9, c9, rfl, o8, o9, -, hb7⟩; have e7 := Lib.hid (t0.out.trans (hb7.mono t0.out.size)); have u2 := SK.out w7 e7.out; have F8 := Lib.hid (box_after t0.out o8 o9 hb7 (by omega) (by omega) FS2.out.1 FS2.out.2.1); clear o8 o9 hb7))
        | (go_at_call 22; (with_reducible refine (KA'.out _ tB.out).mono ?_); rintro e w7 ⟨v', rfl, A8, c8, A9, c9, rfl, o8, o9, -, hb7⟩; have e7 := Lib.hid (tB.out.trans (hb7.mono tB.out.size)); have u2 := SK.out w7 e7.out; have F8 := Lib.hid (box_before sB.out gB.out tB.out o8 o9 hb7 (by omega) (by omega) FS2.out.1 FS2.out.2.1); obtain ⟨y0, y1, y2, y3⟩ := (gB.out.kept hb7).see; clear o8 o9 hb7)))
    all_goals refine ⟨_, F8.out, rfl, ?_, rfl⟩
    all_goals simp only [Act.put, List.setIfInBounds_toArray, List.set_cons_zero, List.set_cons_succ]
  rintro ⟨Ba, A8, c8, A9, c9, W8⟩ hq
  have F8 := Lib.hid hq
  clear hq u0 u1 u3 u4 tB gB sB
  simp only [Act.put, List.setIfInBounds_toArray, List.set_cons_zero, List.set_cons_succ]
  clear KA' t0
  have e8 := Lib.hid F8.out.2.2.2
  obtain ⟨nb, no, rfl, hcn⟩ : ∃ b off, A7 = some ⟨b, off, none⟩ ∧ w6.cell? ⟨b, off + k, none⟩ = some (.int .i64 ((x : Int) + (y : Int))) := by
    rcases gN6.out.2.2.2 with h5 | ⟨b, off, ha, hcx⟩
    · omega
    · exact ⟨b, off, ha, by rw [hcx k hk, S3G.out]⟩
  have CN := Lib.hid (fun w1 (hb : Below w6.heap.size w6 w1) => cell_later hb hcn)
  clear hcn
  have KB' := Lib.hid (fun w1 (hb : Below W8.heap.size W8 w1) => KB.out A c A' c' w1 (gS6.out.kept (e8.out.trans (hb.mono e8.out.size))) GC.out.1 (gC6.out.kept (e8.out.trans (hb.mono e8.out.size))) GC.out.2)
  have SL := Lib.hid (fun w' (hb : Below W8.heap.size W8 w') => (⟨(SK.out w' (e8.out.trans (hb.mono e8.out.size))).1, (SK.out w' (e8.out.trans (hb.mono e8.out.size))).2.1, (SK.out w' (e8.out.trans (hb.mono e8.out.size))).2.2.1, (SK.out w' (e8.out.trans (hb.mono e8.out.size))).2.2.2.1, (SK.out w' (e8.out.trans (hb.mono e8.out.size))).2.2.2.2, CN.out w' (e8.out.trans (hb.mono e8.out.size))⟩ :
    w'.cell? ⟨w2.heap.size, 0, none⟩ = some (.slice A sl2 c) ∧ w'.cell? ⟨w2.heap.size, 1, none⟩ = some (.slice A' (M * (n + m)) c') ∧ w'.cell? ⟨w.heap.size, 0, none⟩ = some (.slice (some ⟨sb, so, none⟩) sl2 sc) ∧ w'.cell? ⟨w.heap.size, 4, none⟩ = some (.int .i64 k) ∧ w'.cell? ⟨sb, so + k, none⟩ = some (.int .i64 x) ∧ w'.cell? ⟨nb, no + k, none⟩ = some (.int .i64 ((x : Int) + (y : Int)))))
  have tB0 : Below W8.heap.size W8 (W8.alloc (.cells #[.slice none 0 0, .slice none 0 0] 26)) := (Below.refl _ _).alloc (Nat.le_refl _) _
  have tB := Lib.hid tB0.drew
  have gB := Lib.hid (show GAt (W8.alloc (.cells #[.slice none 0 0, .slice none 0 0] 26)).drew W8.heap.size (.slice none 0 0) (.slice none 0 0) from World.alloc_heap_new W8 _)
  have sB := Lib.hid (show W8.heap.size < (W8.alloc (.cells #[.slice none 0 0, .slice none 0 0] 26)).drew.heap.size by show W8.heap.size < (W8.alloc _).heap.size; simp)
  have t0 := Lib.hid (Below.refl W8.heap.size W8).drew
  have u3 := SL.out _ tB0
  have u4 := SL.out _ tB.out
  clear tB0
  have u0 := SL.out _ (Below.refl _ _)
  have u1 := SL.out _ t0.out
  have hcl7 : cl2 ≤ 600 := HS2.out.2
  rename_i K1 a1
  refine a1 _ _ ?_
  clear a1
  clear K1
  go_wp2_with fail
  refine (wpIn_wide (n := 1)).1 ?_
  refine region_cut2 (ι := BoxQ) (BoxP W8 sl2 ss2 cl2 ds) (fun q a => (((((((((((((((((((((a.put (some 124) (.agg #[.slice A sl2 c, .slice A' (M * (n + m)) c'])).put (some 125) (.pointer (some ⟨w.heap.size, 4, none⟩))).put (some 126) (.int .i64 k)).put (some 127) (.pointer (some ⟨w.heap.size, 0, none⟩))).put (some 128) (.pointer (some ⟨w.heap.size, 0, none⟩))).put (some 129) (.slice (some ⟨sb, so, none⟩) sl2 sc)).put (some 130) (.pointer (some ⟨w.heap.size, 4, none⟩))).put (some 131) (.int .i64 k)).put (some 132) (.pointer (some ⟨sb, so + k, none⟩))).put (some 133) (.int .i64 x)).put (some 134) (.slice (some ⟨nb, no, none⟩) sl2 c7)).put (some 135) (.pointer (some ⟨w.heap.size, 4, none⟩))).put (some 136) (.int .i64 k)).put (some 137) (.pointer (some ⟨nb, no + k, none⟩))).put (some 138) (.int .i64 ((x : Int) + (y : Int)))).put (some 139) (.tuple #[.agg #[.slice q.A8 sl2 q.c8, .slice q.A9 cl2 q.c9], .int .i64 0])).put (some 123) (.tuple #[.agg #[.slice q.A8 sl2 q.c8, .slice q.A9 cl2 q.c9], .int .i64 0])).put (some 140) (.agg #[.slice q.A8 sl2 q.c8, .slice q.A9 cl2 q.c9])).put (some 141) (.int .i64 0)).put (some 9) (.pointer (some ⟨q.B, 0, none⟩))).put (some 10) (.int .i64 0)))
    (fun q => q.W) ?_ ?_
  · refine wpIn_wide.2 ?_
    go_region_held3 (fun w' => w'.cell? ⟨w2.heap.size, 0, none⟩ = some (.slice A sl2 c) ∧ w'.cell? ⟨w2.heap.size, 1, none⟩ = some (.slice A' (M * (n + m)) c') ∧ w'.cell? ⟨w.heap.size, 0, none⟩ = some (.slice (some ⟨sb, so, none⟩) sl2 sc) ∧ w'.cell? ⟨w.heap.size, 4, none⟩ = some (.int .i64 k) ∧ w'.cell? ⟨sb, so + k, none⟩ = some (.int .i64 x) ∧ w'.cell? ⟨nb, no + k, none⟩ = some (.int .i64 ((x : Int) + (y : Int))))
      (first | (with_reducible exact u0) | (with_reducible exact u1) | (with_reducible exact u2) | (with_reducible exact u3) | (with_reducible exact u4) | (with_reducible refine SL.out _ (e7.out.alloc e7.out.size _)) | (with_reducible refine SL.out _ ((e7.out.setCell (Nat.le_refl _) _).setCell (Nat.le_refl _) _)) | go_keep)
      ((first
        | (go_at_call 22; (with_reducible refine (KB'.out _ t0.out).mono ?_); go_must (rintro e w7 ⟨v', rfl, A10, c10, A11, c11, rfl, o8, o9, -, hb7⟩; have e7 := Lib.hid (t0.out.trans (hb7.mono t0.out.size)); have u2 := SL.out w7 e7.out; have F9 := Lib.hid (box_after t0.out o8 o9 hb7 (by omega) (by omega) FS2.out.2.2.1 FS2.out.2.2.2); clear o8 o9 hb7))
        | (go_at_call 22; (with_reducible refine (KB'.out _ tB.out).mono ?_); go_must (rintro e w7 ⟨v', rfl, A10, c10, A11, c11, rfl, o8, o9, -, hb7⟩; have e7 := Lib.hid (tB.out.trans (hb7.mono tB.out.size)); have u2 := SL.out w7 e7.out; have F9 := Lib.hid (box_before sB.out gB.out tB.out o8 o9 hb7 (by omega) (by omega) FS2.out.2.2.1 FS2.out.2.2.2); obtain ⟨y0, y1, y2, y3⟩ := (gB.out.kept hb7).see; clear o8 o9 hb7))))
    all_goals refine ⟨_, F9.out, rfl, ?_, rfl⟩
    all_goals simp only [Act.put, List.setIfInBounds_toArray, List.set_cons_zero, List.set_cons_succ]
  rintro ⟨Bb, A10, c10, A11, c11, W9⟩ hq
  have F9 := Lib.hid hq
  clear hq u0 u1 u3 u4 tB gB sB
  simp only [Act.put, List.setIfInBounds_toArray, List.set_cons_zero, List.set_cons_succ]
  clear KB' t0
  have e9 := Lib.hid (e8.out.trans (F9.out.2.2.2.mono e8.out.size))
  have bN := Lib.hid (b6.out.trans (e9.out.mono b6.out.size))
  have JN9 := Lib.hid (JN6.out.kept e9.out)
  have J9 := Lib.hid (J.out.kept bN.out)
  have gS9 := Lib.hid (gS6.out.kept e9.out)
  have gC9 := Lib.hid (gC6.out.kept e9.out)
  have gN9 := Lib.hid (gN6.out.kept e9.out)
  have T1 := Lib.hid (And.intro (F8.out.1.kept F9.out.2.2.2) (And.intro (F8.out.2.1.kept F9.out.2.2.2) (F8.out.2.2.1.kept F9.out.2.2.2)))
  have T2 := Lib.hid (And.intro F9.out.1 (And.intro F9.out.2.1 F9.out.2.2.1))
  have EQ := Lib.hid (fun w1 (hb : Below W9.heap.size W9 w1) => (show Calls Try.prog 18 #[.slice A sl2 c, .slice (some ⟨nb, no, none⟩) sl2 c7] w1 fun e w' => e = .returned (.bool true) ∧ ∃ n, w' = w1.drewN n by
    have := equal_any A sl2 c S3 (some ⟨nb, no, none⟩) sl2 c7 S3 w1 (gS9.out.kept hb) (gN9.out.kept hb)
    rw [sameL_self] at this
    exact this))
  have SA := Lib.hid (fun w1 (hb : Below W9.heap.size W9 w1) da dc (hd : IntsAt w1 da (M * (n + m)) P2) => lsame_any A sl2 c A' (M * (n + m)) c' P2 da dc w1 (gC9.out.kept hb) hd)
  have TE1 := Lib.hid (fun w1 (hb : Below W9.heap.size W9 w1) => (show Calls Try.prog 15 #[.agg #[.slice A8 sl2 c8, .slice A9 cl c9], .agg #[.slice (some ⟨sb, so, none⟩) sl2 sc, .slice ca cl cc]] w1 fun e w' => e = .returned (.bool true) ∧ Below w1.heap.size w1 w' by
    have := tequal_any A8 sl2 c8 ss A9 cl c9 cs (some ⟨sb, so, none⟩) sl2 sc ss ca cl cc cs w1 (T1.out.1.kept hb) (T1.out.2.1.kept hb) (H.out _ (bN.out.trans (hb.mono bN.out.size))) (HC.out _ (bN.out.trans (hb.mono bN.out.size)))
    unfold sameT at this
    rw [sameL_self, sameL_self] at this
    exact this))
  have TE2 := Lib.hid (fun w1 (hb : Below W9.heap.size W9 w1) => (show Calls Try.prog 15 #[.agg #[.slice A10 sl2 c10, .slice A11 cl2 c11], .agg #[.slice sa2 sl2 sc2, .slice ca2 cl2 cc2]] w1 fun e w' => e = .returned (.bool true) ∧ Below w1.heap.size w1 w' by
    have := tequal_any A10 sl2 c10 ss2 A11 cl2 c11 ds sa2 sl2 sc2 ss2 ca2 cl2 cc2 ds w1 (T2.out.1.kept hb) (T2.out.2.1.kept hb) (H2.out _ (bN.out.trans (hb.mono bN.out.size))) (HD.out _ (bN.out.trans (hb.mono bN.out.size)))
    unfold sameT at this
    rw [sameL_self, sameL_self] at this
    exact this))
  have SM := Lib.hid (fun w' (hb : Below W9.heap.size W9 w') => (⟨(JN9.out.kept hb).see.1, (JN9.out.kept hb).see.2.1, (J9.out.kept hb).see.1, (J9.out.kept hb).see.2.1, (J9.out.kept hb).see.2.2.1, (J9.out.kept hb).see.2.2.2.1, (J9.out.kept hb).see.2.2.2.2.1, (T1.out.2.2.kept hb).see.1, (T1.out.2.2.kept hb).see.2.1, (T2.out.2.2.kept hb).see.1, (T2.out.2.2.kept hb).see.2.1⟩ :
    w'.cell? ⟨w2.heap.size, 0, none⟩ = some (.slice A sl2 c) ∧ w'.cell? ⟨w2.heap.size, 1, none⟩ = some (.slice A' (M * (n + m)) c') ∧ w'.cell? ⟨w.heap.size, 0, none⟩ = some (.slice (some ⟨sb, so, none⟩) sl2 sc) ∧ w'.cell? ⟨w.heap.size, 1, none⟩ = some (.slice ca cl cc) ∧ w'.cell? ⟨w.heap.size, 2, none⟩ = some (.slice sa2 sl2 sc2) ∧ w'.cell? ⟨w.heap.size, 3, none⟩ = some (.slice ca2 cl2 cc2) ∧ w'.cell? ⟨w.heap.size, 4, none⟩ = some (.int .i64 k) ∧ w'.cell? ⟨Ba, 0, none⟩ = some (.slice A8 sl2 c8) ∧ w'.cell? ⟨Ba, 1, none⟩ = some (.slice A9 cl c9) ∧ w'.cell? ⟨Bb, 0, none⟩ = some (.slice A10 sl2 c10) ∧ w'.cell? ⟨Bb, 1, none⟩ = some (.slice A11 cl2 c11)))
  have t0 := Lib.hid (Below.refl W9.heap.size W9).drew
  have u0 := SM.out _ (Below.refl _ _)
  have u1 := SM.out _ t0.out
  rename_i K1 a1
  refine a1 _ _ ?_
  clear a1
  clear K1
  clear SK SL CN CX KA KB KJ HX' R1 R2 d1 d2 d2' hkl
  go_wp2_with fail
  go_region_held3 (fun w' => w'.cell? ⟨w2.heap.size, 0, none⟩ = some (.slice A sl2 c) ∧ w'.cell? ⟨w2.heap.size, 1, none⟩ = some (.slice A' (M * (n + m)) c') ∧ w'.cell? ⟨w.heap.size, 0, none⟩ = some (.slice (some ⟨sb, so, none⟩) sl2 sc) ∧ w'.cell? ⟨w.heap.size, 1, none⟩ = some (.slice ca cl cc) ∧ w'.cell? ⟨w.heap.size, 2, none⟩ = some (.slice sa2 sl2 sc2) ∧ w'.cell? ⟨w.heap.size, 3, none⟩ = some (.slice ca2 cl2 cc2) ∧ w'.cell? ⟨w.heap.size, 4, none⟩ = some (.int .i64 k) ∧ w'.cell? ⟨Ba, 0, none⟩ = some (.slice A8 sl2 c8) ∧ w'.cell? ⟨Ba, 1, none⟩ = some (.slice A9 cl c9) ∧ w'.cell? ⟨Bb, 0, none⟩ = some (.slice A10 sl2 c10) ∧ w'.cell? ⟨Bb, 1, none⟩ = some (.slice A11 cl2 c11))
    (first | (with_reducible exact u0) | (with_reducible exact u1) | (with_reducible exact u2) | (with_reducible exact u3) | (with_reducible exact u4) | (with_reducible exact u5) | (with_reducible exact u6) | (with_reducible exact u7) | (with_reducible exact u8) | (with_reducible exact u9) | go_keep)
    ((first
      | (go_at_call 18; refine (EQ.out _ t0.out).mono ?_; rintro e x2 ⟨rfl, m2, hx2⟩; have e2 := Lib.hid (show Below W9.heap.size W9 x2 by rw [hx2]; exact below_drewN' t0.out m2); have u2 := SM.out x2 e2.out; clear hx2)
      | (go_at_call 26; (with_reducible refine (CE1.out _ (bN.out.trans (e2.out.mono bN.out.size))).mono ?_); rintro e x3 ⟨A12, c12, rfl, o8, hb8⟩; have e3 := Lib.hid (e2.out.trans (hb8.mono e2.out.size)); have u3 := SM.out x3 e3.out; have g8 := Lib.hid (row_ints o8 (by omega) FS2.out.2.1); clear o8 hb8)
      | (go_at_call 26; (with_reducible refine (CE2.out _ (bN.out.trans (e3.out.mono bN.out.size))).mono ?_); rintro e x4 ⟨A13, c13, rfl, o9, hb9⟩; have e4 := Lib.hid (e3.out.trans (hb9.mono e3.out.size)); have u4 := SM.out x4 e4.out; have g9 := Lib.hid (row_ints o9 (by omega) FS2.out.2.2.2); have g10 := Lib.hid (g8.out.kept hb9); clear o9 hb9)
      | (go_at_call 29; refine (RJ.out _ (bN.out.trans (e4.out.mono bN.out.size)) _ _ g10.out _ _ g9.out).mono ?_; rintro e x5 ⟨A14, c14, rfl, o10, hb10⟩; have e5 := Lib.hid (e4.out.trans (hb10.mono e4.out.size)); have u5 := SM.out x5 e5.out; have g11 := Lib.hid (row_ints o10 (by omega) FS.out.1); clear o10 hb10)
      | (go_at_call 24; refine (SA.out _ e5.out _ _ g11.out).mono ?_; rintro e x6 ⟨rfl, hb11⟩; have e6 := Lib.hid (e5.out.trans (hb11.mono e5.out.size)); have u6 := SM.out x6 e6.out; clear hb11)
      | (go_at_call 15; (with_reducible refine (TE1.out _ e6.out).mono ?_); rintro e x7 ⟨rfl, hb12⟩; have e7 := Lib.hid (e6.out.trans (hb12.mono e6.out.size)); have u7 := SM.out x7 e7.out; clear hb12)
      | (go_at_call 15; (with_reducible refine (TE2.out _ e7.out).mono ?_); rintro e x8 ⟨rfl, hb13⟩; have ea := Lib.hid (e7.out.trans (hb13.mono e7.out.size)); have u8 := SM.out x8 ea.out; clear hb13)
      | (go_at_call 9; refine (awake04_any _).mono ?_; rintro e x9 ⟨rfl, hb14⟩; have eb := Lib.hid (ea.out.trans (hb14.mono ea.out.size)); have u9 := SM.out x9 eb.out; clear hb14)))
  rename_i hHeld
  clear hHeld u0 u1 u2 u3 u4 u5 u6 u7 u8 u9
  have fin := Lib.hid (z.out.trans ((bN.out.trans (eb.out.mono bN.out.size)).mono z.out.size))
  go_wp2_with fail
  go_ret
  exact ⟨rfl, fin.out⟩

end Go.Proofs.Ytjphdkbhkkpeoaa
