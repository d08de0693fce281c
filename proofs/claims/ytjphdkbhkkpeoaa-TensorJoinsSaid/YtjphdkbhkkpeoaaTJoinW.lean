/-
  Contracts of package tensor: Join.
-/
import Derived.Test.YtjphdkbhkkpeoaaPartC
namespace Go.Proofs.Ytjphdkbhkkpeoaa
open Go.RowKit
set_option linter.unusedVariables false
set_option linter.unusedSimpArgs false

/-- The cells of a join: block by block n of the one and m of the other. -/
def joinP (cs ds : List Int) (n m : Nat) : Nat → List Int
  | 0 => []
  | j + 1 => joinP cs ds n m j ++ ((cs.drop (j * n)).take n ++ (ds.drop (j * m)).take m)
theorem joinP_length {cs ds : List Int} {n m : Nat} : ∀ M, M * n ≤ cs.length → M * m ≤ ds.length → (joinP cs ds n m M).length = M * (n + m) := by
  intro M
  induction M with
  | zero => intro _ _; simp [joinP]
  | succ M ih =>
    intro h1 h2
    rw [Nat.succ_mul] at h1 h2
    simp only [joinP, List.length_append, List.length_take, List.length_drop]
    rw [ih (by omega) (by omega), Nat.succ_mul]
    omega
theorem joinP_fits {cs ds : List Int} (h : Fits cs) (h' : Fits ds) (n m : Nat) : ∀ M, Fits (joinP cs ds n m M) := by
  intro M
  induction M with
  | zero => intro q hq; simp [joinP] at hq
  | succ M ih =>
    intro q hq
    rcases List.mem_append.1 hq with hq | hq
    · exact ih q hq
    · rcases List.mem_append.1 hq with hq | hq
      · exact h q (List.mem_of_mem_drop (List.mem_of_mem_take hq))
      · exact h' q (List.mem_of_mem_drop (List.mem_of_mem_take hq))

set_option maxHeartbeats 2000000 in
theorem joinT_wrong1 (sa : Option Addr) (sl sc : Nat) (ss : List Int) (ca : Option Addr) (cl cc : Nat) (sa2 : Option Addr) (sl2 sc2 : Nat) (ss2 : List Int) (ca2 : Option Addr) (cl2 cc2 : Nat) (side : Int) (w : World) (h : IntsAt w sa sl ss) (hl : cl ≤ 9223372036854775807) (h2 : IntsAt w sa2 sl2 ss2) (hl2 : cl2 ≤ 9223372036854775807) (hr : rightT ss cl = false) :
    Calls Try.prog 27 #[.agg #[.slice sa sl sc, .slice ca cl cc], .agg #[.slice sa2 sl2 sc2, .slice ca2 cl2 cc2], .int .i64 side] w (NilT w 20) := by
  obtain ⟨wA, hwA, J1, z1, n1⟩ := grid_box w (.slice sa sl sc) (.slice ca cl cc)
  obtain ⟨wA2, hwA2, J1b, z1b, n1b⟩ := grid_box wA (.slice sa2 sl2 sc2) (.slice ca2 cl2 cc2)
  obtain ⟨wB, hwB, J2, z2, n2⟩ := grid_box wA2 (.slice none 0 0) (.slice none 0 0)
  rw [n1.out] at J1b
  rw [n1b.out, n1.out] at J2
  have z12 := z1.out.trans (z1b.out.mono z1.out.size)
  have z := Lib.hid (z12.trans (z2.out.mono z12.size))
  have J := Lib.hid ((J1.out.kept z1b.out).kept z2.out)
  have Jb := Lib.hid (J1b.out.kept z2.out)
  have C1 := Lib.hid (fun w1 (hb : Below wB.heap.size wB w1) => tright_any sa sl sc ss ca cl cc w1 ((h.kept z.out).kept hb) hl)
  have C2 := Lib.hid (fun w1 (hb : Below wB.heap.size wB w1) => tright_any sa2 sl2 sc2 ss2 ca2 cl2 cc2 w1 ((h2.kept z.out).kept hb) hl2)
  rw [hr] at C1
  clear h h2 J1 J1b hr z12 C2
  obtain ⟨j0, j1, -, -⟩ := J.out.see
  go_enter Try.func27, Try.ntmps27
  go_upto_region 1 with (fail)
  rw [hwA.out, hwA2.out, hwB.out]
  go_wp2_with fail
  refine (C1.out _ (Below.refl _ _)).mono ?_
  rintro e w1 ⟨rfl, hb1⟩
  obtain ⟨e0, e1, f0, f1⟩ := (J2.out.kept hb1).see
  obtain ⟨h0, h1, -, -⟩ := ((J2.out.kept hb1).set (.slice none 0 0) (.slice none 0 0)).see
  have Z : Below w.heap.size w ((w1.setCell ⟨w.heap.size + 1 + 1, 0, none⟩ (.slice none 0 0)).setCell ⟨w.heap.size + 1 + 1, 1, none⟩ (.slice none 0 0)) :=
    ((z.out.trans (hb1.mono z.out.size)).setCell (show w.heap.size ≤ w.heap.size + 1 + 1 by omega) _).setCell (show w.heap.size ≤ w.heap.size + 1 + 1 by omega) _
  go_wp2_with fail
  refine bodyPost_ret (v := .tuple #[.agg #[.slice none 0 0, .slice none 0 0], .int .i64 20]) ?_ rfl ⟨rfl, Z⟩
  simp [results, Try.results27, go_sem, h0, h1]

set_option maxHeartbeats 2000000 in
theorem joinT_wrong2 (sa : Option Addr) (sl sc : Nat) (ss : List Int) (ca : Option Addr) (cl cc : Nat) (sa2 : Option Addr) (sl2 sc2 : Nat) (ss2 : List Int) (ca2 : Option Addr) (cl2 cc2 : Nat) (side : Int) (w : World) (h : IntsAt w sa sl ss) (hl : cl ≤ 9223372036854775807) (h2 : IntsAt w sa2 sl2 ss2) (hl2 : cl2 ≤ 9223372036854775807) (hr : rightT ss cl = true) (hr2 : rightT ss2 cl2 = false) :
    Calls Try.prog 27 #[.agg #[.slice sa sl sc, .slice ca cl cc], .agg #[.slice sa2 sl2 sc2, .slice ca2 cl2 cc2], .int .i64 side] w (NilT w 20) := by
  obtain ⟨wA, hwA, J1, z1, n1⟩ := grid_box w (.slice sa sl sc) (.slice ca cl cc)
  obtain ⟨wA2, hwA2, J1b, z1b, n1b⟩ := grid_box wA (.slice sa2 sl2 sc2) (.slice ca2 cl2 cc2)
  obtain ⟨wB, hwB, J2, z2, n2⟩ := grid_box wA2 (.slice none 0 0) (.slice none 0 0)
  rw [n1.out] at J1b
  rw [n1b.out, n1.out] at J2
  have z12 := z1.out.trans (z1b.out.mono z1.out.size)
  have z := Lib.hid (z12.trans (z2.out.mono z12.size))
  have J := Lib.hid ((J1.out.kept z1b.out).kept z2.out)
  have Jb := Lib.hid (J1b.out.kept z2.out)
  have C1 := Lib.hid (fun w1 (hb : Below wB.heap.size wB w1) => tright_any sa sl sc ss ca cl cc w1 ((h.kept z.out).kept hb) hl)
  have C2 := Lib.hid (fun w1 (hb : Below wB.heap.size wB w1) => tright_any sa2 sl2 sc2 ss2 ca2 cl2 cc2 w1 ((h2.kept z.out).kept hb) hl2)
  rw [hr] at C1
  rw [hr2] at C2
  clear h h2 J1 J1b hr hr2 z12
  obtain ⟨j0, j1, -, -⟩ := J.out.see
  go_enter Try.func27, Try.ntmps27
  go_upto_region 1 with (fail)
  rw [hwA.out, hwA2.out, hwB.out]
  go_wp2_with fail
  refine (C1.out _ (Below.refl _ _)).mono ?_
  rintro e w1 ⟨rfl, hb1⟩
  obtain ⟨k0, k1, -, -⟩ := (Jb.out.kept hb1).see
  go_wp2_with fail
  refine (C2.out w1 hb1).mono ?_
  rintro e w2 ⟨rfl, hb2⟩
  have hb := hb1.trans (hb2.mono hb1.size)
  obtain ⟨e0, e1, f0, f1⟩ := (J2.out.kept hb).see
  obtain ⟨h0, h1, -, -⟩ := ((J2.out.kept hb).set (.slice none 0 0) (.slice none 0 0)).see
  have Z : Below w.heap.size w ((w2.setCell ⟨w.heap.size + 1 + 1, 0, none⟩ (.slice none 0 0)).setCell ⟨w.heap.size + 1 + 1, 1, none⟩ (.slice none 0 0)) :=
    ((z.out.trans (hb.mono z.out.size)).setCell (show w.heap.size ≤ w.heap.size + 1 + 1 by omega) _).setCell (show w.heap.size ≤ w.heap.size + 1 + 1 by omega) _
  go_wp2_with fail
  refine bodyPost_ret (v := .tuple #[.agg #[.slice none 0 0, .slice none 0 0], .int .i64 20]) ?_ rfl ⟨rfl, Z⟩
  simp [results, Try.results27, go_sem, h0, h1]

set_option maxHeartbeats 2000000 in
theorem joinT_none (sa : Option Addr) (sl sc : Nat) (ss : List Int) (ca : Option Addr) (cl cc : Nat) (sa2 : Option Addr) (sl2 sc2 : Nat) (ss2 : List Int) (ca2 : Option Addr) (cl2 cc2 : Nat) (side x : Int) (w : World) (h : IntsAt w sa sl ss) (hl : cl ≤ 9223372036854775807) (h2 : IntsAt w sa2 sl2 ss2) (hl2 : cl2 ≤ 9223372036854775807) (hr : rightT ss cl = true) (hr2 : rightT ss2 cl2 = true) (hx : x ≠ 0)
    (HJ : ∀ w1, Below w.heap.size w w1 → Calls Try.prog 28 #[.slice sa sl sc, .slice sa2 sl2 sc2, .int .i64 side] w1 (NilE w1 x)) :
    Calls Try.prog 27 #[.agg #[.slice sa sl sc, .slice ca cl cc], .agg #[.slice sa2 sl2 sc2, .slice ca2 cl2 cc2], .int .i64 side] w (NilT w x) := by
  obtain ⟨wA, hwA, J1, z1, n1⟩ := grid_box w (.slice sa sl sc) (.slice ca cl cc)
  obtain ⟨wA2, hwA2, J1b, z1b, n1b⟩ := grid_box wA (.slice sa2 sl2 sc2) (.slice ca2 cl2 cc2)
  obtain ⟨wB, hwB, J2, z2, n2⟩ := grid_box wA2 (.slice none 0 0) (.slice none 0 0)
  rw [n1.out] at J1b
  rw [n1b.out, n1.out] at J2
  have z12 := z1.out.trans (z1b.out.mono z1.out.size)
  have z := Lib.hid (z12.trans (z2.out.mono z12.size))
  have J := Lib.hid ((J1.out.kept z1b.out).kept z2.out)
  have Jb := Lib.hid (J1b.out.kept z2.out)
  have C1 := Lib.hid (fun w1 (hb : Below wB.heap.size wB w1) => tright_any sa sl sc ss ca cl cc w1 ((h.kept z.out).kept hb) hl)
  have C2 := Lib.hid (fun w1 (hb : Below wB.heap.size wB w1) => tright_any sa2 sl2 sc2 ss2 ca2 cl2 cc2 w1 ((h2.kept z.out).kept hb) hl2)
  rw [hr] at C1
  rw [hr2] at C2
  have D := Lib.hid (fun w1 (hb : Below wB.heap.size wB w1) => HJ w1 (z.out.trans (hb.mono z.out.size)))
  clear h h2 J1 J1b hr hr2 z12 HJ
  obtain ⟨j0, j1, -, -⟩ := J.out.see
  go_enter Try.func27, Try.ntmps27
  go_upto_region 1 with (fail)
  rw [hwA.out, hwA2.out, hwB.out]
  go_wp2_with fail
  refine (C1.out _ (Below.refl _ _)).mono ?_
  rintro e w1 ⟨rfl, hb1⟩
  obtain ⟨k0, k1, -, -⟩ := (Jb.out.kept hb1).see
  go_wp2_with fail
  refine (C2.out w1 hb1).mono ?_
  rintro e w2 ⟨rfl, hb2⟩
  have hb := hb1.trans (hb2.mono hb1.size)
  obtain ⟨l0, l1, -, -⟩ := (J.out.kept hb).see
  obtain ⟨m0, m1, -, -⟩ := (Jb.out.kept hb).see
  clear k0 k1
  go_wp2_with fail
  refine (D.out w2 hb).mono ?_
  rintro e w3 ⟨rfl, hb3⟩
  have hbb := hb.trans (hb3.mono hb.size)
  obtain ⟨e0, e1, f0, f1⟩ := (J2.out.kept hbb).see
  obtain ⟨h0, h1, -, -⟩ := ((J2.out.kept hbb).set (.slice none 0 0) (.slice none 0 0)).see
  have Z : Below w.heap.size w ((w3.setCell ⟨w.heap.size + 1 + 1, 0, none⟩ (.slice none 0 0)).setCell ⟨w.heap.size + 1 + 1, 1, none⟩ (.slice none 0 0)) :=
    ((z.out.trans (hbb.mono z.out.size)).setCell (show w.heap.size ≤ w.heap.size + 1 + 1 by omega) _).setCell (show w.heap.size ≤ w.heap.size + 1 + 1 by omega) _
  go_wp2_with fail
  refine bodyPost_ret (v := .tuple #[.agg #[.slice none 0 0, .slice none 0 0], .int .i64 x]) ?_ rfl ⟨rfl, Z⟩
  simp [results, Try.results27, go_sem, h0, h1]
end Go.Proofs.Ytjphdkbhkkpeoaa
