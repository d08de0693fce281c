/-
  Contracts of package tensor: Cut.
-/
import Derived.Test.YtjphdkbhkkpeoaaBlocksW
namespace Go.Proofs.Ytjphdkbhkkpeoaa
open Go.RowKit
set_option linter.unusedVariables false
set_option linter.unusedSimpArgs false

/-- The cells of a part: of each of the first blocks of n cells those from the lo-th on, wd of them. -/
def cutP (cs : List Int) (n lo wd : Nat) : Nat → List Int
  | 0 => []
  | j + 1 => cutP cs n lo wd j ++ (cs.drop (j * n + lo)).take wd
theorem mul_room {j M n : Nat} (h : j < M) : j * n + n ≤ M * n := by
  have := Nat.mul_le_mul_right n (show j + 1 ≤ M from h)
  rwa [Nat.succ_mul] at this
theorem cutP_length {cs : List Int} {n lo wd : Nat} (h : lo + wd ≤ n) : ∀ M, M * n ≤ cs.length → (cutP cs n lo wd M).length = M * wd := by
  intro M
  induction M with
  | zero => intro _; simp [cutP]
  | succ M ih =>
    intro hM
    rw [Nat.succ_mul] at hM
    simp only [cutP, List.length_append, List.length_take, List.length_drop]
    rw [ih (by omega), Nat.succ_mul]
    omega
theorem cutP_fits {cs : List Int} (h : Fits cs) (n lo wd : Nat) : ∀ M, Fits (cutP cs n lo wd M) := by
  intro M
  induction M with
  | zero => intro q hq; simp [cutP] at hq
  | succ M ih =>
    intro q hq
    rcases List.mem_append.1 hq with hq | hq
    · exact ih q hq
    · exact h q (List.mem_of_mem_drop (List.mem_of_mem_take hq))

theorem upL_get : ∀ (M j i : Nat), i < M → (upL j M)[i]? = some (j + i) := by
  intro M
  induction M with
  | zero => intro j i h; omega
  | succ M ih =>
    intro j i h
    cases i with
    | zero => simp [upL]
    | succ i =>
      simp only [upL, List.getElem?_cons_succ]
      rw [ih (j + 1) i (by omega)]
      congr 1
      omega
/-- A part of a slice's cells lies where the part begins. -/
theorem piece_news {w : World} {b off cl : Nat} {cs : List Int} (h : IntsAt w (some ⟨b, off, none⟩) cl cs) (a m : Nat) : ∀ i u, (((cs.drop a).take m).map (Value.int .i64))[i]? = some u → w.cell? ((⟨b, off + a, none⟩ : Addr).add i) = some u := by
  intro i u hi
  have hil := (List.getElem?_eq_some_iff.1 hi).1
  rw [List.length_map, List.length_take, List.length_drop, h.1] at hil
  rcases h.2.2.2 with h4 | ⟨b', off', hb, hc⟩
  · omega
  · cases hb
    rw [Addr.add_lit, Nat.add_assoc, hc (a + i) (by omega), ← hi]
    have hl := h.1
    rw [List.getElem?_map, List.getElem?_take, if_pos (by omega), List.getElem?_drop]
    simp [List.getD, List.getElem?_eq_getElem (show a + i < cs.length by omega)]

set_option maxHeartbeats 2000000 in
theorem cutT_wrong (sa : Option Addr) (sl sc : Nat) (ss : List Int) (ca : Option Addr) (cl cc : Nat) (side fr tt : Int) (w : World) (h : IntsAt w sa sl ss) (hl : cl ≤ 9223372036854775807) (hr : rightT ss cl = false) :
    Calls Try.prog 22 #[.agg #[.slice sa sl sc, .slice ca cl cc], .int .i64 side, .int .i64 fr, .int .i64 tt] w (NilT w 20) := by
  obtain ⟨wA, hwA, J1, z1, n1⟩ := grid_box w (.slice sa sl sc) (.slice ca cl cc)
  obtain ⟨wB, hwB, J2, z2, n2⟩ := grid_box wA (.slice none 0 0) (.slice none 0 0)
  rw [n1.out] at J2
  have z := Lib.hid (z1.out.trans (z2.out.mono z1.out.size))
  have J := Lib.hid (J1.out.kept z2.out)
  have C := tright_any sa sl sc ss ca cl cc wB (h.kept z.out) hl
  rw [hr] at C
  have C1 := Lib.hid C
  clear h J1 C hr
  obtain ⟨j0, j1, -, -⟩ := J.out.see
  go_enter Try.func22, Try.ntmps22
  go_upto_region 1 with (fail)
  rw [hwA.out, hwB.out]
  go_wp2_with fail
  refine C1.out.mono ?_
  rintro e w1 ⟨rfl, hb1⟩
  obtain ⟨e0, e1, f0, f1⟩ := (J2.out.kept hb1).see
  obtain ⟨h0, h1, -, -⟩ := ((J2.out.kept hb1).set (.slice none 0 0) (.slice none 0 0)).see
  have Z : Below w.heap.size w ((w1.setCell ⟨w.heap.size + 1, 0, none⟩ (.slice none 0 0)).setCell ⟨w.heap.size + 1, 1, none⟩ (.slice none 0 0)) :=
    ((z.out.trans (hb1.mono z.out.size)).setCell (Nat.le_add_right _ _) _).setCell (Nat.le_add_right _ _) _
  go_wp2_with fail
  refine bodyPost_ret (v := .tuple #[.agg #[.slice none 0 0, .slice none 0 0], .int .i64 20]) ?_ rfl ⟨rfl, Z⟩
  simp [results, Try.results22, go_sem, h0, h1]

set_option maxHeartbeats 2000000 in
theorem cutT_none (sa : Option Addr) (sl sc : Nat) (ss : List Int) (ca : Option Addr) (cl cc : Nat) (side fr tt x : Int) (w : World) (h : IntsAt w sa sl ss) (hl : cl ≤ 9223372036854775807) (hr : rightT ss cl = true) (hx : x ≠ 0)
    (HC : ∀ w1, Below w.heap.size w w1 → Calls Try.prog 23 #[.slice sa sl sc, .int .i64 side, .int .i64 fr, .int .i64 tt] w1 (NilE w1 x)) :
    Calls Try.prog 22 #[.agg #[.slice sa sl sc, .slice ca cl cc], .int .i64 side, .int .i64 fr, .int .i64 tt] w (NilT w x) := by
  obtain ⟨wA, hwA, J1, z1, n1⟩ := grid_box w (.slice sa sl sc) (.slice ca cl cc)
  obtain ⟨wB, hwB, J2, z2, n2⟩ := grid_box wA (.slice none 0 0) (.slice none 0 0)
  rw [n1.out] at J2
  have z := Lib.hid (z1.out.trans (z2.out.mono z1.out.size))
  have J := Lib.hid (J1.out.kept z2.out)
  have C := tright_any sa sl sc ss ca cl cc wB (h.kept z.out) hl
  rw [hr] at C
  have C1 := Lib.hid C
  have D := Lib.hid (fun w1 (hb : Below wB.heap.size wB w1) => HC w1 (z.out.trans (hb.mono z.out.size)))
  clear h J1 C hr HC
  obtain ⟨j0, j1, -, -⟩ := J.out.see
  go_enter Try.func22, Try.ntmps22
  go_upto_region 1 with (fail)
  rw [hwA.out, hwB.out]
  go_wp2_with fail
  refine C1.out.mono ?_
  rintro e w1 ⟨rfl, hb1⟩
  obtain ⟨k0, k1, -, -⟩ := (J.out.kept hb1).see
  go_wp2_with fail
  refine (D.out w1 hb1).mono ?_
  rintro e w2 ⟨rfl, hb2⟩
  have hb := hb1.trans (hb2.mono hb1.size)
  obtain ⟨e0, e1, f0, f1⟩ := (J2.out.kept hb).see
  obtain ⟨h0, h1, -, -⟩ := ((J2.out.kept hb).set (.slice none 0 0) (.slice none 0 0)).see
  have Z : Below w.heap.size w ((w2.setCell ⟨w.heap.size + 1, 0, none⟩ (.slice none 0 0)).setCell ⟨w.heap.size + 1, 1, none⟩ (.slice none 0 0)) :=
    ((z.out.trans (hb.mono z.out.size)).setCell (Nat.le_add_right _ _) _).setCell (Nat.le_add_right _ _) _
  go_wp2_with fail
  refine bodyPost_ret (v := .tuple #[.agg #[.slice none 0 0, .slice none 0 0], .int .i64 x]) ?_ rfl ⟨rfl, Z⟩
  simp [results, Try.results22, go_sem, h0, h1]

set_option maxRecDepth 100000 in
set_option maxHeartbeats 4000000 in
theorem cutT_ok (sa : Option Addr) (sl sc : Nat) (ss : List Int) (ca : Option Addr) (cl cc : Nat) (cs : List Int) (k : Nat) (fr tt : Int) (n M lo wd : Nat) (w : World) (h : IntsAt w sa sl ss) (hcap : sl ≤ sc) (hcm : sc ≤ 9223372036854775807)
    (hc : IntsAt w ca cl cs) (hcc : cl ≤ cc) (hccm : cc ≤ 9223372036854775807) (hl : cl ≤ 2000) (hT : rightT ss cl = true) (hk : k < sl) (n1 : 0 ≤ fr) (n2 : tt ≤ ss.getD k 0) (n3 : fr < tt)
    (hn : ss.getD k 0 * prodI (ss.drop (k + 1)) = n) (hM : prodI (ss.take k) = M) (hlo : fr * prodI (ss.drop (k + 1)) = lo) (hwd : (tt - fr) * prodI (ss.drop (k + 1)) = wd) :
    Calls Try.prog 22 #[.agg #[.slice sa sl sc, .slice ca cl cc], .int .i64 k, .int .i64 fr, .int .i64 tt] w (OkT w sl (ss.set k (tt - fr)) (M * wd) (cutP cs n lo wd M)) := by
  obtain ⟨hr, hcl⟩ := rightT_parts hT
  obtain ⟨-, hl4, hall, -⟩ := rightS_parts hr
  have hsl := h.1
  obtain ⟨x, hx⟩ : ∃ x, ss.getD k 0 = x := ⟨_, rfl⟩
  obtain ⟨P, hP⟩ : ∃ P, prodI (ss.drop (k + 1)) = P := ⟨_, rfl⟩
  have hP1 : 1 ≤ P := by rw [← hP]; exact prodI_pos (allR_drop hall (k + 1))
  have hx1 := (allR_getD hall k (by omega)).2
  have hM1 : 1 ≤ M := by have := prodI_pos (allR_take hall k); omega
  have hL : cl = M * n := by
    rw [prodI_split ss k (by omega), hn, hM] at hcl
    have : ((M * n : Nat) : Int) = (M : Int) * (n : Int) := by simp
    omega
  have hroom : lo + wd ≤ n ∧ 1 ≤ wd := by
    rw [hx] at n2 hn
    rw [hP] at hn hlo hwd
    have e1 : (lo : Int) + wd = tt * P := by rw [← hlo, ← hwd, ← Int.add_mul]; congr 1; omega
    have e2 : tt * P ≤ x * P := Int.mul_le_mul_of_nonneg_right n2 (by omega)
    have e3 : 1 * 1 ≤ (tt - fr) * P := Int.mul_le_mul (by omega) hP1 (by omega) (by omega)
    omega
  have htoP : tt * P = ((lo + wd : Nat) : Int) := by
    rw [hP] at hlo hwd
    have e1 : (lo : Int) + wd = tt * P := by rw [← hlo, ← hwd, ← Int.add_mul]; congr 1; omega
    omega
  obtain ⟨wA, hwA, J1, z1, m1⟩ := grid_box w (.slice sa sl sc) (.slice ca cl cc)
  obtain ⟨wB, hwB, J2, z2, m2⟩ := grid_box wA (.slice none 0 0) (.slice none 0 0)
  rw [m1.out] at J2
  have z := Lib.hid (z1.out.trans (z2.out.mono z1.out.size))
  have J := Lib.hid (J1.out.kept z2.out)
  have C := tright_any sa sl sc ss ca cl cc wB (h.kept z.out) (by omega)
  rw [hT] at C
  have C1 := Lib.hid C
  have H := Lib.hid (fun w1 (hb : Below wB.heap.size wB w1) => (h.kept z.out).kept hb)
  have HC := Lib.hid (fun w1 (hb : Below wB.heap.size wB w1) => (hc.kept z.out).kept hb)
  obtain ⟨b, off, rfl⟩ : ∃ b off, ca = some ⟨b, off, none⟩ := by
    rcases hc.2.2.2 with h5 | ⟨b, off, ha, _⟩
    · have := rightT_pos hT; omega
    · exact ⟨b, off, ha⟩
  have D := Lib.hid (fun w1 (hb : Below wB.heap.size wB w1) => cut_ok sa sl sc ss k fr tt w1 (H.out w1 hb) hr hk n1 n2 n3)
  have DI := fun w1 (hb : Below wB.heap.size wB w1) => distance_any sa sl sc ss k w1 (H.out w1 hb) hk hcap hcm hall (by omega)
  rw [hP] at DI
  have DI' := Lib.hid DI
  have BL := Lib.hid (fun w1 (hb : Below wB.heap.size wB w1) => blocks_any sa sl sc ss b off cl cc k n M w1 (H.out w1 hb) hcap hcm hT hk hcc hccm hl hn hM)
  have hcsl := Lib.hid hc.1
  have hfc := Lib.hid hc.2.2.1
  rw [hP] at hlo
  have w1' : IntKind.i64.wrap (fr * P) = (lo : Int) := by rw [hlo]; exact IntWalk.i64_in _ (by have := Nat.mul_le_mul_right n hM1; omega)
  have w2' : IntKind.i64.wrap (tt * P) = ((lo + wd : Nat) : Int) := by rw [htoP]; exact IntWalk.i64_in _ (by have := Nat.mul_le_mul_right n hM1; omega)
  have HLL := Lib.hid hL
  have HRM := Lib.hid hroom
  have hn6 : n ≤ 2000 := by have := Nat.mul_le_mul_right n hM1; omega
  have hlow : lo + wd ≤ n := hroom.1
  have hM6 : M ≤ 2000 := by have := Nat.le_mul_of_pos_right M (show 0 < n by omega); omega
  have hwd1 : 1 ≤ wd := hroom.2
  clear h hc J1 C hT hr hall hl4 hcl hsl DI hn hM hlo hwd htoP hx hP hx1 hP1 hL hroom n1 n2 n3
  obtain ⟨j0, j1, -, -⟩ := J.out.see
  go_enter Try.func22, Try.ntmps22
  go_upto_region 1 with (fail)
  rw [hwA.out, hwB.out]
  go_wp2_with fail
  refine C1.out.mono ?_
  rintro e w1 ⟨rfl, hb1⟩
  obtain ⟨k0, k1, -, -⟩ := (J.out.kept hb1).see
  go_wp2_with fail
  refine (D.out w1 hb1).mono ?_
  rintro e w2 ⟨A, c, rfl, ho2, hb2⟩
  have b2 := Lib.hid (hb1.trans (hb2.mono hb1.size))
  have ho2' := Lib.hid ho2
  have b2size := Lib.hid hb2.size
  have hb1' := Lib.hid hb1
  clear k0 k1 ho2 hb2 C1 D hb1
  obtain ⟨k0, k1, -, -⟩ := (J.out.kept b2.out).see
  go_wp2_with fail
  refine (DI'.out w2 b2.out).mono ?_
  rintro e w3 ⟨rfl, rfl⟩
  go_wp2_with fail
  refine (BL.out w2 b2.out).mono ?_
  rintro e w4 ⟨bv, rfl, ho4, hb4⟩
  obtain ⟨g, gc, hv⟩ := Joins.ownsRow_form ho4 (by omega)
  subst hv
  have b4 := Lib.hid (b2.out.trans (hb4.mono b2.out.size))
  have ho4' := Lib.hid ho4
  have hb4' := Lib.hid hb4
  have hb24 := Lib.hid hb4
  clear k0 k1 ho4 hb4 BL DI'
  obtain ⟨i0, hi, hz0, hz1, hz2⟩ := info_parts fInfo
  go_wp2_with fail
  go_loopw [13, 41] (fun t i wr => ∃ j : Nat, j ≤ M ∧ i = .int .i64 j ∧ Hid (wr.ownsRow w4.heap.size 27 1 t (j * wd) ((cutP cs n lo wd j).map (Value.int .i64))) ∧ Hid (Below w4.heap.size w4 wr)) (fun _ i _ => M - (intOf i).toNat)
  case atStart => exact ⟨0, Nat.zero_le _, rfl, Lib.hid (by rw [Nat.zero_mul]; exact World.ownsRow_nil _ _ _ _), Lib.hid (Below.refl _ _)⟩
  case round =>
    rename_i tv iv
    obtain ⟨j, hj, rfl, hrow, hbr⟩ := hrel
    by_cases hlt : j < M
    · have hcp : wr.cell? ⟨g, j, none⟩ = some (.slice (some ⟨b, off + j * n, none⟩) n n) := by
        have e := ho4'.out.cellAt j (by omega)
        rw [List.getElem?_map, upL_get M 0 j hlt, Nat.zero_add] at e
        exact cell_later hbr.out e
      have hcs : IntsAt wr (some ⟨b, off, none⟩) cl cs := HC.out wr (b4.out.trans (hbr.out.mono b4.out.size))
      have hjn := mul_room (n := n) hlt
      have hjL : j * n + n ≤ cl := by rw [HLL.out]; exact hjn
      have hjw : j * wd + wd ≤ 2000 := by
        have h1 := mul_room (n := wd) hlt
        have h2 : M * wd ≤ M * n := Nat.mul_le_mul_left M (by omega)
        rw [← HLL.out] at h2
        omega
      obtain ⟨q, hq⟩ : ∃ q, off + j * n = q := ⟨_, rfl⟩
      have hnew := piece_news hcs (j * n + lo) wd
      rw [show off + (j * n + lo) = q + lo by omega] at hnew
      have hlen : (((cs.drop (j * n + lo)).take wd).map (Value.int .i64)).length = (lo + wd - lo) * 1 := by
        rw [List.length_map, List.length_take, List.length_drop, hcsl.out]; omega
      have hone : ∀ u ∈ ((cs.drop (j * n + lo)).take wd).map (Value.int .i64), u.oneCell' = true := by
        intro u hu; obtain ⟨y, _, rfl⟩ := List.mem_map.1 hu; rfl
      have hb6 : j * wd + (lo + wd - lo) ≤ maxLen := by unfold maxLen; omega
      have hb7 : (j * wd + (lo + wd - lo)) * 8 ≤ 140737488355328 := by omega
      have hb8 : w4.heap.size ≤ wr.heap.size := hbr.out.size
      have hrw := hrow.out
      rw [hq] at hcp
      obtain ⟨L1, hL1⟩ : ∃ L, ((cs.drop (j * n + lo)).take wd).map (Value.int .i64) = L := ⟨_, rfl⟩
      rw [hL1] at hnew hlen hone
      have HL1 := Lib.hid hL1
      clear hcs hjn hjL hq hL1
      go_wp2_with (at_builtin; refine wpList_append_own _ rfl _ _ 24 rfl w4.heap.size 27 i0 (.int .i64 0) 1 8 Try.underlying24 hi hz0 hz1 hz2 rfl (by decide) _ (j * wd) _ rfl hrw ⟨b, q + lo, none⟩ (lo + wd - lo) (n - lo) L1 rfl hlen hnew hone hb6 hb7 hb8 ?_)
      intro v' w5 hown hgrow hnil
      have e1 : j * wd + wd = (j + 1) * wd := (Nat.succ_mul _ _).symm
      rw [← HL1.out, ← List.map_append, e1] at hown
      have hown' := Lib.hid (show w5.ownsRow w4.heap.size 27 1 v' ((j + 1) * wd) ((cutP cs n lo wd (j + 1)).map (Value.int .i64)) from hown)
      have hb5 := Lib.hid (hbr.out.grown hgrow hb8 (fun q' hq' => (hrw.lt q' hq').1))
      clear hown hgrow hnil hcp hnew hlen hone hb6 hb7 hb8 hrw e1 hjw
      go_wp2_with fail
      go_roundw
      case rel => exact ⟨j + 1, by omega, by go_num, hown', hb5⟩
      case measure => (simp [intOf]; try omega)
    · obtain rfl : j = M := by omega
      have hMw : 1 ≤ j * wd := Nat.mul_pos (by omega) hwd1
      obtain ⟨g5, c5, hv5⟩ := Joins.ownsRow_form hrow.out (by omega)
      subst hv5
      have hbb := b4.out.trans (hbr.out.mono b4.out.size)
      have J4 := J2.out.kept hbb
      obtain ⟨e0, e1, f0, f1⟩ := J4.see
      obtain ⟨h0, h1, -, -⟩ := (J4.set (.slice A sl c) (.slice (some ⟨g5, 0, none⟩) (j * wd) c5)).see
      have hsz1 : w.heap.size + 1 < w1.heap.size := by have := m1.out; have := m2.out; have := hb1'.out.size; omega
      have hsz4 : w1.heap.size ≤ w4.heap.size := by
        have e := hb4'.out.size
        have e2 := b2size.out
        omega
      have P : NewT w sl (ss.set k (tt - fr)) (j * wd) (cutP cs n lo wd j) (.agg #[.slice A sl c, .slice (some ⟨g5, 0, none⟩) (j * wd) c5]) ((wr.setCell ⟨w.heap.size + 1, 0, none⟩ (.slice A sl c)).setCell ⟨w.heap.size + 1, 1, none⟩ (.slice (some ⟨g5, 0, none⟩) (j * wd) c5)) := by
        refine ⟨A, c, _, c5, rfl, Joins.ownsRow_le (row_far (row_far (row_kept ho2'.out (hb24.out.trans (hbr.out.mono hb24.out.size))) ?_) ?_) (by omega), Joins.ownsRow_le (row_far (row_far hrow.out ?_) ?_) (by omega), ?_, ?_⟩
        · exact hsz1
        · exact hsz1
        · exact Nat.lt_of_lt_of_le hsz1 hsz4
        · exact Nat.lt_of_lt_of_le hsz1 hsz4
        · rintro p q rfl hq
          cases hq
          have h1 := (ho2'.out.lt p.block rfl).2
          have h2 := (hrow.out.lt g5 rfl).1
          have h3 := hb4'.out.size
          show p.block ≠ g5
          omega
        · exact ((z.out.trans (hbb.mono z.out.size)).setCell (Nat.le_add_right _ _) _).setCell (Nat.le_add_right _ _) _
      have P' := Lib.hid P
      clear P J4 hsz1 hsz4 hbb
      go_wp2_with fail
      refine bodyPost_ret (v := .tuple #[.agg #[.slice A sl c, .slice (some ⟨g5, 0, none⟩) (j * wd) c5], .int .i64 0]) ?_ rfl ⟨_, rfl, P'.out⟩
      simp [results, Try.results22, go_sem, h0, h1]
end Go.Proofs.Ytjphdkbhkkpeoaa
