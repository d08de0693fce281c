/-
  Contracts of package tensor: Join, where the tensors fit.
-/
import Derived.Test.YtjphdkbhkkpeoaaTJoinW
namespace Go.Proofs.Ytjphdkbhkkpeoaa
open Go.RowKit
set_option linter.unusedVariables false
set_option linter.unusedSimpArgs false

/-- What is to be appended is a part of a slice of numbers. -/
structure Tail (w0 wr : World) (L1 L0 : List Value) (t : Value) (len add : Nat) (ad : Addr) : Prop where
  row : wr.ownsRow w0.heap.size 27 1 t len L0
  long : L1.length = add * 1
  new : ∀ j u, L1[j]? = some u → wr.cell? (ad.add j) = some u
  one : ∀ u ∈ L1, u.oneCell' = true
  room : len + add ≤ maxLen
  bytes : (len + add) * 8 ≤ 140737488355328
  size : w0.heap.size ≤ wr.heap.size
theorem tail_of {w0 wr : World} {L0 : List Value} {t : Value} {len : Nat} {b off cl : Nat} {cs : List Int} (h : wr.ownsRow w0.heap.size 27 1 t len L0) (hb : Below w0.heap.size w0 wr) (hc : IntsAt wr (some ⟨b, off, none⟩) cl cs) (a m : Nat) (ha : a + m ≤ cl) (hl : len + m ≤ 10000) :
    Tail w0 wr (((cs.drop a).take m).map (Value.int .i64)) L0 t len m ⟨b, off + a, none⟩ :=
  ⟨h, by rw [List.length_map, List.length_take, List.length_drop, hc.1]; omega, piece_news hc a m, (by intro u hu; obtain ⟨y, _, rfl⟩ := List.mem_map.1 hu; rfl), by unfold maxLen; omega, by omega, hb.size⟩

set_option maxRecDepth 100000 in
set_option maxHeartbeats 4000000 in
theorem joinT_ok (sa : Option Addr) (sl sc : Nat) (ss : List Int) (ca : Option Addr) (cl cc : Nat) (cs : List Int) (sa2 : Option Addr) (sl2 sc2 : Nat) (ss2 : List Int) (ca2 : Option Addr) (cl2 cc2 : Nat) (ds : List Int) (k n m M : Nat) (S3 : List Int) (w : World)
    (h : IntsAt w sa sl ss) (hsc : Capped sl sc) (hc : IntsAt w ca cl cs) (hcc : Capped cl cc) (h2 : IntsAt w sa2 sl2 ss2) (hsc2 : Capped sl2 sc2) (hd : IntsAt w ca2 cl2 ds) (hcc2 : Capped cl2 cc2) (hl : cl ≤ 1000) (hl2 : cl2 ≤ 1000)
    (hT : rightT ss cl = true) (hT2 : rightT ss2 cl2 = true) (hk : k < sl) (hk2 : k < sl2)
    (hn : ss.getD k 0 * prodI (ss.drop (k + 1)) = n) (hM : prodI (ss.take k) = M) (hm : ss2.getD k 0 * prodI (ss2.drop (k + 1)) = m) (hM2 : prodI (ss2.take k) = M) (hL : cl = M * n) (hL2 : cl2 = M * m) (hM1 : 1 ≤ M)
    (HJ : ∀ w1, Below w.heap.size w w1 → Calls Try.prog 28 #[.slice sa sl sc, .slice sa2 sl2 sc2, .int .i64 k] w1 (NewE w1 sl S3)) :
    Calls Try.prog 27 #[.agg #[.slice sa sl sc, .slice ca cl cc], .agg #[.slice sa2 sl2 sc2, .slice ca2 cl2 cc2], .int .i64 k] w (OkT w sl S3 (M * (n + m)) (joinP cs ds n m M)) := by
  have hp1 := rightT_pos hT
  have hp2 := rightT_pos hT2
  obtain ⟨b, off, rfl⟩ : ∃ b off, ca = some ⟨b, off, none⟩ := by
    rcases hc.2.2.2 with h5 | ⟨b, off, ha, _⟩
    · omega
    · exact ⟨b, off, ha⟩
  obtain ⟨b2, off2, rfl⟩ : ∃ b off, ca2 = some ⟨b, off, none⟩ := by
    rcases hd.2.2.2 with h5 | ⟨b, off, ha, _⟩
    · omega
    · exact ⟨b, off, ha⟩
  obtain ⟨wA, hwA, J1, z1, n1⟩ := grid_box w (.slice sa sl sc) (.slice (some ⟨b, off, none⟩) cl cc)
  obtain ⟨wA2, hwA2, J1b, z1b, n1b⟩ := grid_box wA (.slice sa2 sl2 sc2) (.slice (some ⟨b2, off2, none⟩) cl2 cc2)
  obtain ⟨wB, hwB, J2, z2, n2⟩ := grid_box wA2 (.slice none 0 0) (.slice none 0 0)
  rw [n1.out] at J1b
  rw [n1b.out, n1.out] at J2
  have z12 := z1.out.trans (z1b.out.mono z1.out.size)
  have z := Lib.hid (z12.trans (z2.out.mono z12.size))
  have J := Lib.hid ((J1.out.kept z1b.out).kept z2.out)
  have Jb := Lib.hid (J1b.out.kept z2.out)
  have C1 := Lib.hid (fun w1 (hb : Below wB.heap.size wB w1) => tright_any sa sl sc ss (some ⟨b, off, none⟩) cl cc w1 ((h.kept z.out).kept hb) (by omega))
  have C2 := Lib.hid (fun w1 (hb : Below wB.heap.size wB w1) => tright_any sa2 sl2 sc2 ss2 (some ⟨b2, off2, none⟩) cl2 cc2 w1 ((h2.kept z.out).kept hb) (by omega))
  have D := Lib.hid (fun w1 (hb : Below wB.heap.size wB w1) => HJ w1 (z.out.trans (hb.mono z.out.size)))
  have B1 := Lib.hid (fun w1 (hb : Below wB.heap.size wB w1) => blocks_any sa sl sc ss b off cl cc k n M w1 ((h.kept z.out).kept hb) hsc.1 hsc.2 hT hk hcc.1 hcc.2 (by omega) hn hM)
  have B2 := Lib.hid (fun w1 (hb : Below wB.heap.size wB w1) => blocks_any sa2 sl2 sc2 ss2 b2 off2 cl2 cc2 k m M w1 ((h2.kept z.out).kept hb) hsc2.1 hsc2.2 hT2 hk2 hcc2.1 hcc2.2 (by omega) hm hM2)
  have HC := Lib.hid (fun w1 (hb : Below wB.heap.size wB w1) => (hc.kept z.out).kept hb)
  have HD := Lib.hid (fun w1 (hb : Below wB.heap.size wB w1) => (hd.kept z.out).kept hb)
  rw [hT] at C1
  rw [hT2] at C2
  have HL := Lib.hid hL
  have HL2 := Lib.hid hL2
  have hM6 : M ≤ 1000 := by
    have h0 : 0 < n := Nat.pos_of_ne_zero (by rintro rfl; simp at hL; omega)
    have := Nat.le_mul_of_pos_right M h0
    omega
  have hnm : 1 ≤ n + m := by
    have h0 : 0 < n := Nat.pos_of_ne_zero (by rintro rfl; simp at hL; omega)
    omega
  clear h hc h2 hd J1 J1b hT hT2 z12 HJ hn hM hm hM2 hL hL2 hp1 hp2
  obtain ⟨j0, j1, -, -⟩ := J.out.see
  go_enter Try.func27, Try.ntmps27
  go_upto_region 1 with (fail)
  rw [hwA.out, hwA2.out, hwB.out]
  go_wp2_with fail
  refine (C1.out _ (Below.refl _ _)).mono ?_
  rintro e w1 ⟨rfl, hb1⟩
  obtain ⟨k0, k1, -, -⟩ := (Jb.out.kept hb1).see
  go_wp2_with fail
  refine (C2.out w1 hb1).mono ?_
  rintro e w2 ⟨rfl, hb2⟩
  have c2 := Lib.hid (hb1.trans (hb2.mono hb1.size))
  clear k0 k1 hb1 hb2 j0 j1 C1 C2
  obtain ⟨l0, l1, -, -⟩ := (J.out.kept c2.out).see
  obtain ⟨m0, m1, -, -⟩ := (Jb.out.kept c2.out).see
  go_wp2_with fail
  refine (D.out w2 c2.out).mono ?_
  rintro e w3 ⟨A, c, rfl, ho3, hb3⟩
  have c3 := Lib.hid (c2.out.trans (hb3.mono c2.out.size))
  have o3 := Lib.hid ho3
  have b3 := Lib.hid hb3.size
  clear l0 l1 m0 m1 ho3 hb3 D
  obtain ⟨m0, m1, -, -⟩ := (Jb.out.kept c3.out).see
  go_wp2_with fail
  refine (B2.out w3 c3.out).mono ?_
  rintro e w4 ⟨bv, rfl, ho4, hb4⟩
  obtain ⟨g4, gc4, hv⟩ := Joins.ownsRow_form ho4 (by omega)
  subst hv
  have c4 := Lib.hid (c3.out.trans (hb4.mono c3.out.size))
  have o4 := Lib.hid ho4
  have b4 := Lib.hid hb4
  clear m0 m1 ho4 hb4 B2
  obtain ⟨l0, l1, -, -⟩ := (J.out.kept c4.out).see
  go_wp2_with fail
  refine (B1.out w4 c4.out).mono ?_
  rintro e w5 ⟨bv, rfl, ho5, hb5⟩
  obtain ⟨g5, gc5, hv⟩ := Joins.ownsRow_form ho5 (by omega)
  subst hv
  have c5 := Lib.hid (c4.out.trans (hb5.mono c4.out.size))
  have o5 := Lib.hid ho5
  have b5 := Lib.hid hb5
  clear l0 l1 ho5 hb5 B1
  obtain ⟨i0, hi, hz0, hz1, hz2⟩ := info_parts fInfo
  go_wp2_with fail
  go_loopw [11, 43] (fun tv iv wr => ∃ j : Nat, j ≤ M ∧ iv = .int .i64 j ∧ Hid (wr.ownsRow w5.heap.size 27 1 tv (j * (n + m)) ((joinP cs ds n m j).map (Value.int .i64))) ∧ Hid (Below w5.heap.size w5 wr)) (fun _ iv _ => M - (intOf iv).toNat)
  case atStart => exact ⟨0, Nat.zero_le _, rfl, Lib.hid (by rw [Nat.zero_mul]; exact World.ownsRow_nil _ _ _ _), Lib.hid (Below.refl _ _)⟩
  case round =>
    obtain ⟨j, hj, rfl, hrow, hbr⟩ := hrel
    by_cases hlt : j < M
    · have q5 := c5.out.trans (hbr.out.mono c5.out.size)
      have hcp : wr.cell? ⟨g5, j, none⟩ = some (.slice (some ⟨b, off + j * n, none⟩) n n) := by
        have e := o5.out.cellAt j (by omega)
        rw [List.getElem?_map, upL_get M 0 j hlt, Nat.zero_add] at e
        exact cell_later hbr.out e
      have hcq : ∀ w6, Below wr.heap.size wr w6 ∨ Below w5.heap.size w5 w6 → w6.cell? ⟨g4, j, none⟩ = some (.slice (some ⟨b2, off2 + j * m, none⟩) m m) := by
        intro w6 hw6
        have e := o4.out.cellAt j (by omega)
        rw [List.getElem?_map, upL_get M 0 j hlt, Nat.zero_add] at e
        have e5 : w5.cell? ⟨g4, j, none⟩ = _ := cell_later b5.out e
        rcases hw6 with h6 | h6
        · exact cell_later h6 (cell_later hbr.out e5)
        · exact cell_later h6 e5
      have HCQ := Lib.hid hcq
      have hjn := mul_room (n := n) hlt
      have hjm := mul_room (n := m) hlt
      have hjw : j * (n + m) + (n + m) ≤ 2000 := by
        rw [Nat.mul_add]
        have := HL.out
        have := HL2.out
        omega
      have T1 := tail_of hrow.out hbr.out (HC.out wr q5) (j * n) n (by rw [HL.out]; exact hjn) (by omega)
      obtain ⟨q, hq⟩ : ∃ q, off + j * n = q := ⟨_, rfl⟩
      rw [hq] at hcp T1
      obtain ⟨L1, hL1⟩ : ∃ L, ((cs.drop (j * n)).take n).map (Value.int .i64) = L := ⟨_, rfl⟩
      rw [hL1] at T1
      have HL1 := Lib.hid hL1
      obtain ⟨t1, t2, t3, t4, t5, t6, t7⟩ := T1
      have HJM := Lib.hid (And.intro hjm hjw)
      clear hq hL1 q5 hjn hjm hjw hcq
      go_wp2_with (at_builtin; refine wpList_append_own _ rfl _ _ 24 rfl w5.heap.size 27 i0 (.int .i64 0) 1 8 Try.underlying24 hi hz0 hz1 hz2 rfl (by decide) _ (j * (n + m)) _ rfl t1 ⟨b, q, none⟩ n n L1 rfl t2 t3 t4 t5 t6 t7 ?_)
      intro v' w6 hown hgrow hnil
      have hb6 := hbr.out.grown hgrow t7 (fun q' hq' => (t1.lt q' hq').1)
      have hc6 := HCQ.out w6 (.inr hb6)
      have T2 := tail_of hown hb6 (HD.out w6 (c5.out.trans (hb6.mono c5.out.size))) (j * m) m (by rw [HL2.out]; exact HJM.out.1) (by have := HJM.out.2; omega)
      obtain ⟨q2, hq2⟩ : ∃ q, off2 + j * m = q := ⟨_, rfl⟩
      rw [hq2] at hc6 T2
      obtain ⟨L2, hL2⟩ : ∃ L, ((ds.drop (j * m)).take m).map (Value.int .i64) = L := ⟨_, rfl⟩
      rw [hL2] at T2
      have HL2' := Lib.hid hL2
      have hb6' := Lib.hid hb6
      clear t1 t2 t3 t4 t5 t6 t7 hown hgrow hnil hq2 hL2 hb6 hcp
      obtain ⟨t1, t2, t3, t4, t5, t6, t7⟩ := T2
      go_wp2_with (at_builtin; refine wpList_append_own _ rfl _ _ 24 rfl w5.heap.size 27 i0 (.int .i64 0) 1 8 Try.underlying24 hi hz0 hz1 hz2 rfl (by decide) _ (j * (n + m) + n) _ rfl t1 ⟨b2, q2, none⟩ m m L2 rfl t2 t3 t4 t5 t6 t7 ?_)
      intro v2 w7 hown hgrow hnil
      have hb7 := Lib.hid (hb6'.out.grown hgrow t7 (fun q' hq' => (t1.lt q' hq').1))
      have e1 : j * (n + m) + n + m = (j + 1) * (n + m) := by rw [Nat.succ_mul, Nat.add_assoc]
      rw [← HL1.out, ← HL2'.out, ← List.map_append, ← List.map_append, e1] at hown
      have hown' := Lib.hid (show w7.ownsRow w5.heap.size 27 1 v2 ((j + 1) * (n + m)) ((joinP cs ds n m (j + 1)).map (Value.int .i64)) from hown)
      clear hown hgrow hnil t1 t2 t3 t4 t5 t6 t7 hc6 e1
      go_wp2_with fail
      go_roundw
      case rel => exact ⟨j + 1, by omega, by go_num, hown', hb7⟩
      case measure => (simp [intOf]; try omega)
    · obtain rfl : j = M := by omega
      have hMw : 1 ≤ j * (n + m) := Nat.mul_pos (by omega) hnm
      obtain ⟨g6, c6, hv6⟩ := Joins.ownsRow_form hrow.out (by omega)
      subst hv6
      have hbb := c5.out.trans (hbr.out.mono c5.out.size)
      have J4 := J2.out.kept hbb
      obtain ⟨e0, e1, f0, f1⟩ := J4.see
      obtain ⟨h0, h1, -, -⟩ := (J4.set (.slice A sl c) (.slice (some ⟨g6, 0, none⟩) (j * (n + m)) c6)).see
      have hsz1 : w.heap.size + 1 + 1 < w2.heap.size := by have := n1.out; have := n1b.out; have := n2.out; have := c2.out.size; omega
      have x3 := b3.out
      have x4 := b4.out.size
      have x5 := b5.out.size
      have P : NewT w sl S3 (j * (n + m)) (joinP cs ds n m j) (.agg #[.slice A sl c, .slice (some ⟨g6, 0, none⟩) (j * (n + m)) c6]) ((wr.setCell ⟨w.heap.size + 1 + 1, 0, none⟩ (.slice A sl c)).setCell ⟨w.heap.size + 1 + 1, 1, none⟩ (.slice (some ⟨g6, 0, none⟩) (j * (n + m)) c6)) := by
        have d45 : Below w3.heap.size w3 wr := (b4.out.trans (b5.out.mono x4)).trans (hbr.out.mono (Nat.le_trans x4 x5))
        refine ⟨A, c, _, c6, rfl, Joins.ownsRow_le (row_far (row_far (row_kept o3.out d45) ?_) ?_) (by omega), Joins.ownsRow_le (row_far (row_far hrow.out ?_) ?_) (by omega), ?_, ?_⟩
        · exact hsz1
        · exact hsz1
        · show w.heap.size + 1 + 1 < w5.heap.size
          omega
        · show w.heap.size + 1 + 1 < w5.heap.size
          omega
        · rintro p q rfl hq
          cases hq
          have y1 := (o3.out.lt p.block rfl).2
          have y2 := (hrow.out.lt g6 rfl).1
          show p.block ≠ g6
          omega
        · exact ((z.out.trans (hbb.mono z.out.size)).setCell (show w.heap.size ≤ w.heap.size + 1 + 1 by omega) _).setCell (show w.heap.size ≤ w.heap.size + 1 + 1 by omega) _
      have P' := Lib.hid P
      clear P J4 hsz1 hbb x3 x4 x5
      go_wp2_with fail
      refine bodyPost_ret (v := .tuple #[.agg #[.slice A sl c, .slice (some ⟨g6, 0, none⟩) (j * (n + m)) c6], .int .i64 0]) ?_ rfl ⟨_, rfl, P'.out⟩
      simp [results, Try.results27, go_sem, h0, h1]
end Go.Proofs.Ytjphdkbhkkpeoaa
