import Derived.Test.YtapelgjnnccfoaaJ00
import Derived.Test.YtapelgjnnccfoaaJ01
import Derived.Test.YtapelgjnnccfoaaJ02
import Derived.Test.YtapelgjnnccfoaaJ03
import Derived.Deep.DeepCutAuto
import Derived.Deep.CutBlock
import Derived.Deep.RegionWith
import Derived.RangeFuncCalls
import Derived.Shelf.RegionOpen
import Derived.OwnWalkIn
import Derived.TacticsInMore
import Derived.LoopNIn
import Derived.LoopIn
import Derived.ArgAppend
/-
  Contracts of the statements' file of layer 7: cells, right, same, of.
-/
namespace Go.Proofs.Ytapelgjnnccfoaa
open Go.RowKit
set_option linter.unusedVariables false
set_option linter.unusedSimpArgs false

set_option maxHeartbeats 2000000 in
theorem cells_any (sa : Option Addr) (sl sc : Nat) (ca : Option Addr) (cl cc : Nat) (cs : List Int) (w : World) (hc : IntsAt w ca cl cs) (hl : cl ≤ 1000) :
    Calls Try.prog 19 #[.agg #[.slice sa sl sc, .slice ca cl cc]] w fun e w' => ∃ A cap, e = .returned (.slice A cl cap) ∧ w'.ownsRow w.heap.size 2 1 (.slice A cl cap) cl (cs.map (Value.int .i64)) ∧ Below w.heap.size w w' := by
  obtain ⟨wA, hwA, J, z, n1⟩ := grid_box w (.slice sa sl sc) (.slice ca cl cc)
  obtain ⟨j0, j1, -, -⟩ := J.out.see
  have HC := Lib.hid (fun w1 (hb : Below wA.heap.size wA w1) => (hc.kept z.out).kept hb)
  have hcl := Lib.hid hc.1
  obtain ⟨i0, hi, hz0, hz1, hz2⟩ := info_parts i64Info
  clear hc
  go_enter Try.func19, Try.ntmps19
  go_upto_region 1 with (fail)
  rw [hwA.out]
  go_wp2_with fail
  go_loopw [3, 9] (fun t i wr => ∃ j : Nat, j ≤ cl ∧ i = .int .i64 j ∧ Hid (wr.ownsRow wA.heap.size 2 1 t j ((cs.take j).map (Value.int .i64))) ∧ Hid (Below wA.heap.size wA wr)) (fun _ i _ => cl - (intOf i).toNat)
  case atStart => exact ⟨0, Nat.zero_le _, rfl, Lib.hid (by rw [List.take_zero]; exact World.ownsRow_nil _ _ _ _), Lib.hid (Below.refl _ _)⟩
  case round =>
    obtain ⟨j, hj, rfl, hrow, hbr⟩ := hrel
    by_cases hlt : j < cl
    · obtain ⟨b, off, rfl, hcell⟩ : ∃ b off, ca = some ⟨b, off, none⟩ ∧ wr.cell? ⟨b, off + j, none⟩ = some (.int .i64 (cs.getD j 0)) := by
        rcases (HC.out wr hbr.out).2.2.2 with h5 | ⟨b, off, ha, hcx⟩
        · omega
        · exact ⟨b, off, ha, hcx j hlt⟩
      have hst : cs.take (j + 1) = cs.take j ++ [cs.getD j 0] := by
        rw [List.take_add_one]
        simp [List.getD, List.getElem?_eq_getElem (show j < cs.length by rw [hcl.out]; exact hlt)]
      obtain ⟨x, hx⟩ : ∃ x, cs.getD j 0 = x := ⟨_, rfl⟩
      rw [hx] at hcell hst
      obtain ⟨L0, hL0⟩ : ∃ L, (cs.take j).map (Value.int .i64) = L := ⟨_, rfl⟩
      have hrw := hrow.out.alloc (.cells #[.int .i64 x] 2)
      rw [hL0] at hrw
      have HL0 := Lib.hid hL0
      have hnew := box_cell wr x 2
      have hone : ∀ u ∈ [Value.int .i64 x], u.oneCell' = true := by intro u hu; simp at hu; subst hu; rfl
      have hb6 : j + 1 ≤ maxLen := by unfold maxLen; omega
      have hb7 : (j + 1) * 8 ≤ 140737488355328 := by omega
      have hb8 : wA.heap.size ≤ (wr.alloc (.cells #[.int .i64 x] 2)).heap.size := by have := hbr.out.size; simp; omega
      have HST := Lib.hid hst
      clear hst hx hL0
      go_wp2_with (at_builtin; refine wpList_append_own _ rfl _ _ 42 rfl wA.heap.size 2 i0 (.int .i64 0) 1 8 Try.underlying42 hi hz0 hz1 hz2 rfl (by decide) _ j _ rfl hrw ⟨wr.heap.size, 0, none⟩ 1 1 [.int .i64 x] rfl rfl hnew hone hb6 hb7 hb8 ?_)
      intro v' w5 hown hgrow hnil
      rw [← HL0.out, ← snoc_int, ← HST.out] at hown
      have hown' := Lib.hid hown
      have hb5 := Lib.hid ((hbr.out.alloc hbr.out.size (.cells #[.int .i64 x] 2)).grown hgrow hb8 (fun q' hq' => (hrow.out.lt q' hq').1))
      clear hown hgrow hnil hcell hnew hone hb6 hb7 hb8 hrw
      go_wp2_with fail
      go_roundw
      case rel => exact ⟨j + 1, by omega, by go_num, hown', hb5⟩
      case measure => (simp [intOf]; try omega)
    · obtain rfl : j = cl := by omega
      rw [List.take_of_length_le (by rw [hcl.out]; omega)] at hrow
      have hq := Joins.ownsRow_le hrow.out z.out.size
      have hb := Lib.hid (z.out.trans (hbr.out.mono z.out.size))
      have hq' := Lib.hid hq
      rcases Joins.ownsRow_forms hrow.out with ⟨e1, e2⟩ | ⟨g, c, e1⟩
      · subst e1
        subst e2
        clear hrow hq
        go_wp2_with fail
        go_ret
        exact ⟨_, _, rfl, hq'.out, hb.out⟩
      · subst e1
        clear hrow hq
        go_wp2_with fail
        go_ret
        exact ⟨_, _, rfl, hq'.out, hb.out⟩
set_option maxHeartbeats 1000000 in
theorem rright_any (sa : Option Addr) (sl sc : Nat) (ss : List Int) (ca : Option Addr) (cl cc : Nat) (w : World) (h : IntsAt w sa sl ss) (hl : cl ≤ 9223372036854775807) :
    Calls Try.prog 21 #[.agg #[.slice sa sl sc, .slice ca cl cc]] w fun e w' => e = .returned (.bool (rightT ss cl)) ∧ Below w.heap.size w w' := by
  obtain ⟨wA, hwA, J1, z1, n1⟩ := grid_box w (.slice sa sl sc) (.slice ca cl cc)
  obtain ⟨j0, j1, -, -⟩ := J1.out.see
  have hd := fun n => (h.kept z1.out).kept (below_drewN' (Below.refl _ _) n)
  have C := fun n => flipW (refshape_any sa sl sc ss (wA.drewN n) (hd n))
  have D := fun hr n => flipW (refsize_any sa sl sc ss (wA.drewN n) (hd n) hr)
  clear h hd
  cases b : rightS ss
  · rw [b] at C
    have C1 := Lib.hid C
    have E := Lib.hid (rightT_no (n := cl) b)
    clear C b D
    go_enter Try.func21, Try.ntmps21
    go_upto_region 1 with (fail)
    rw [hwA.out]
    go_quiet ((go_at_call 30; exact Calls.quiet_of_same (C1.out _)))
    go_wp2_with fail
    go_ret
    exact ⟨ret_bool E.out, below_drewN' z1.out _⟩
  · rw [b] at C
    have C1 := Lib.hid C
    have D1 := D b
    have E1 := Lib.hid (fun h => rightT_yes (n := cl) b h)
    have E2 := Lib.hid (fun h => rightT_len (ss := ss) (n := cl) h)
    clear C b D
    obtain ⟨x, hx⟩ : ∃ x, prodI ss = x := ⟨_, rfl⟩
    rw [hx] at D1 E1 E2
    have D2 := Lib.hid D1
    clear hx D1
    have E : Hid (((cl : Int) == x) = rightT ss cl) := Lib.hid (by
      by_cases c : (cl : Int) = x
      · rw [← E1.out c]; simp [c]
      · rw [← E2.out c]; simp [c])
    clear E1 E2
    go_enter Try.func21, Try.ntmps21
    go_upto_region 1 with (fail)
    rw [hwA.out]
    go_quiet ((first | (go_at_call 30; exact Calls.quiet_of_same (C1.out _)) | (go_at_call 23; exact Calls.quiet_of_same (D2.out _))))
    go_wp2_with fail
    go_ret
    exact ⟨ret_bool E.out, below_drewN' z1.out _⟩

set_option maxHeartbeats 2000000 in
theorem lawsame_any (t : TV) (sa : Option Addr) (sl sc : Nat) (la : Option Addr) (lc : Nat) (w : World) (ht : t.At w) (hs : IntsAt w sa sl t.ss) (hl : IntsAt w la t.cl t.cs) :
    Calls Try.prog 16 #[.agg #[.slice t.sa t.sl t.sc, .slice t.ca t.cl t.cc], .slice sa sl sc, .slice la t.cl lc] w fun e w' => e = .returned (.bool true) ∧ Below w.heap.size w w' := by
  obtain ⟨wB, hwB, J, z, n1⟩ := grid_box w (.slice t.sa t.sl t.sc) (.slice t.ca t.cl t.cc)
  have SM := same_any t.sa t.sl t.sc t.ss sa sl sc t.ss wB (ht.1.kept z.out) (hs.kept z.out)
  rw [sameL_self] at SM
  have SM' := Lib.hid SM
  have HA := Lib.hid (ht.2.1.kept z.out)
  have HB := Lib.hid (hl.kept z.out)
  have hl6 := ht.2.2.2
  clear ht hs hl SM
  obtain ⟨i0, i1, -, -⟩ := J.out.see
  obtain ⟨y, hy⟩ : ∃ y, t.cl = y := ⟨_, rfl⟩
  rw [hy] at HA HB i1 hwB hl6 ⊢
  clear hy
  go_enter Try.func16, Try.ntmps16
  go_upto_region 1 with (fail)
  rw [hwB.out]
  go_wp2_with fail
  refine SM'.out.mono ?_
  rintro e w1 ⟨rfl, m, rfl⟩
  go_wp2_with fail
  go_loopw [23] (fun i wr => ∃ j : Nat, j ≤ y ∧ i = .int .i64 j ∧ Hid (∃ m, wr = wB.drewN m)) (fun i _ => y - (intOf i).toNat)
  case atStart => exact ⟨0, Nat.zero_le _, rfl, Lib.hid ⟨m, rfl⟩⟩
  case round =>
    obtain ⟨j, hj, rfl, hw⟩ := hrel
    obtain ⟨m', hm⟩ := hw.out
    have kW : Below wB.heap.size wB wr := by rw [hm]; exact below_drewN' (Below.refl _ _) m'
    have kW' := Lib.hid kW
    have f1 : wr.cell? ⟨w.heap.size, 1, none⟩ = some (.slice t.ca y t.cc) := cell_later kW i1
    by_cases hlt : j < y
    · obtain ⟨b1, o1, q1, e1⟩ : ∃ b1 off, t.ca = some ⟨b1, off, none⟩ ∧ wr.cell? ⟨b1, off + j, none⟩ = some (.int .i64 (t.cs.getD j 0)) := by
        rcases (HA.out.kept kW).2.2.2 with h4 | ⟨b1, off, ha, hcc⟩
        · omega
        · exact ⟨b1, off, ha, hcc j hlt⟩
      obtain ⟨b2, o2, q2, e2⟩ : ∃ b1 off, la = some ⟨b1, off, none⟩ ∧ wr.cell? ⟨b1, off + j, none⟩ = some (.int .i64 (t.cs.getD j 0)) := by
        rcases (HB.out.kept kW).2.2.2 with h4 | ⟨b1, off, ha, hcc⟩
        · omega
        · exact ⟨b1, off, ha, hcc j hlt⟩
      rw [q1] at f1
      have hm' := Lib.hid hm
      subst q2
      obtain ⟨x, hx⟩ : ∃ x, t.cs.getD j 0 = x := ⟨_, rfl⟩
      rw [hx] at e1 e2
      clear hm hw kW q1 hx i0 i1
      go_wp2_with fail
      go_quiet (fail)
      go_wp2_with fail
      go_roundw
      case rel => exact ⟨j + 1, by omega, by go_num, Lib.hid ⟨m' + nq, by rw [hm'.out, World.drewN_drewN]⟩⟩
      case measure => (simp [intOf]; try omega)
    · have hm' := Lib.hid hm
      clear hm hw kW
      go_wp2_with fail
      go_ret
      exact ⟨rfl, z.out.trans (kW'.out.mono z.out.size)⟩

def wholeF (l : List Int) : List Int := l.map fun x => sat (x * 4294967296)
theorem wholeF_length (l : List Int) : (wholeF l).length = l.length := by simp [wholeF]
theorem wholeF_step {l : List Int} {k : Nat} (h : k < l.length) : (wholeF l).take (k + 1) = (wholeF l).take k ++ [sat (l.getD k 0 * 4294967296)] := by
  rw [List.take_add_one, List.getElem?_eq_getElem (by rw [wholeF_length]; exact h)]
  simp [wholeF, List.getD, List.getElem?_eq_getElem h]
theorem wholeF_fits (l : List Int) : Fits (wholeF l) := by
  intro y hy
  unfold wholeF at hy
  obtain ⟨i, -, rfl⟩ := List.mem_map.1 hy
  exact sat_bounds _

set_option maxRecDepth 100000 in
set_option maxHeartbeats 4000000 in
theorem lawof_any (sa : Option Addr) (sl sc : Nat) (la : Option Addr) (n lc : Nat) (ls : List Int) (w : World) (hl : IntsAt w la n ls) (hn : n ≤ 1000) :
    Calls Try.prog 26 #[.slice sa sl sc, .slice la n lc] w fun e w' => ∃ A cap, e = .returned (.agg #[.slice sa sl sc, .slice A n cap]) ∧ w'.ownsRow w.heap.size 56 1 (.slice A n cap) n ((wholeF ls).map (Value.int .i64)) ∧ Below w.heap.size w w' := by
  obtain ⟨wA, hwA, J1, z1, n1⟩ := grid_box w (.slice none 0 0) (.slice none 0 0)
  obtain ⟨wB, hwB, J2, z2, n2⟩ := grid_box wA (.slice sa sl sc) (.slice none 0 0)
  rw [n1.out] at J2
  have z := Lib.hid (z1.out.trans (z2.out.mono z1.out.size))
  have J1' := Lib.hid (J1.out.kept z2.out)
  have hB2 : wB.heap.size = w.heap.size + 2 := by rw [n2.out, n1.out]
  have hll := Lib.hid hl.1
  have hlf := Lib.hid hl.2.2.1
  have HL := Lib.hid (fun w1 (hs : Save (fun k => k = w.heap.size + 1) wB w1) k (hk : k < n) => (by
    rcases hl.2.2.2 with h4 | ⟨b, off, ha, hc⟩
    · omega
    · refine ⟨b, off, ha, ?_⟩
      have h5 := hc k hk
      exact hs.cell (cell_later z.out h5) (by have := World.block_lt_of_cell? w _ h5; show ¬ (b = w.heap.size + 1); have h6 : b < w.heap.size := this; omega) : ∃ b off, la = some ⟨b, off, none⟩ ∧ w1.cell? ⟨b, off + k, none⟩ = some (.int .i64 (ls.getD k 0))))
  have HS := Lib.hid (fun k (hk : k < n) => wholeF_step (l := ls) (k := k) (by rw [hll.out]; exact hk))
  obtain ⟨xs, hxs⟩ : ∃ xs, wholeF ls = xs := ⟨_, rfl⟩
  have hxl : Hid (xs.length = n) := Lib.hid (by rw [← hxs, wholeF_length, hll.out])
  rw [hxs] at HS ⊢
  clear hl J1 hxs
  go_enter Try.func26, Try.ntmps26
  go_upto_region 2 with (fail)
  rw [hwA.out, hwB.out]
  go_wp2_with fail
  go_loopw [12] (fun i wr => ∃ (k : Nat) (t : Value), k ≤ n ∧ i = .int .i64 k ∧ Hid (GAt wr (w.heap.size + 1) (.slice sa sl sc) t) ∧ Hid (wr.ownsRow wB.heap.size 56 1 t k ((xs.take k).map (Value.int .i64))) ∧ Hid (Save (fun k => k = w.heap.size + 1) wB wr)) (fun i _ => n - (intOf i).toNat)
  case atStart => exact ⟨0, _, Nat.zero_le _, rfl, J2, Lib.hid (by rw [List.take_zero]; exact World.ownsRow_nil _ _ _ _), Lib.hid (Save.refl _ _)⟩
  case round =>
    obtain ⟨k, t, hk, rfl, hJT, hrow, hbr⟩ := hrel
    by_cases hlt : k < n
    · obtain ⟨b, off, rfl, hcx⟩ := HL.out wr hbr.out k hlt
      have hst := HS.out k hlt
      obtain ⟨x1, x2⟩ := hlf.out.getD k
      obtain ⟨x, hx⟩ : ∃ x, ls.getD k 0 = x := ⟨_, rfl⟩
      rw [hx] at hcx hst x1 x2
      have II := fun w => int_any x w x1 x2
      have hy12 := Lib.hid (sat_bounds (x * 4294967296))
      obtain ⟨y, hy⟩ : ∃ y, sat (x * 4294967296) = y := ⟨_, rfl⟩
      rw [hy] at hst hy12
      simp only [hy] at II
      have I1 := Lib.hid II
      have HST := Lib.hid hst
      obtain ⟨t0, t1, -, -⟩ := hJT.out.see
      have u1 : wr.drew.cell? ⟨w.heap.size + 1, 1, none⟩ = some t := t1
      clear II hst hy hx x1 x2
      go_wp2_with fail
      refine wp_region_held_drew (S := fun _ => True) (by kernel_rfl) trivial (fun hHeld => ?_)
      refine held_take 0 (.pointer (some ⟨w.heap.size + 1, 1, none⟩)) rfl (by kernel_rfl) (by kernel_rfl) (by kernel_rfl) (fun _ _ _ h => h) (by rfl) (by intro w' hS; go_simp) (by assumption) ?_
      try simp only [Act.put, List.setIfInBounds_toArray, List.set_cons_zero, List.set_cons_succ]
      refine held_take 2 (.int .i64 x) rfl (by kernel_rfl) (by kernel_rfl) (by kernel_rfl) (fun _ _ _ h => h) (by rfl) (by intro w' hS; go_simp) (by assumption) ?_
      try simp only [Act.put, List.setIfInBounds_toArray, List.set_cons_zero, List.set_cons_succ]
      refine held_two 1 3 (by kernel_rfl) rfl rfl (by rfl) (by rfl) (fun K hK => ?_) (fun K hK => ?_)
      · go_simp
        refine hK.out _ _ trivial (fun hHeld => ?_)
        try simp only [Act.put, List.setIfInBounds_toArray, List.set_cons_zero, List.set_cons_succ]
        refine held_call 3 (by kernel_rfl) rfl (by rfl) (fun K hK => ?_)
        go_simp
        refine (I1.out _).mono ?_
        rintro e _ ⟨rfl, rfl⟩
        go_wp2_with fail
        refine hK.out _ _ trivial (fun hHeld => ?_)
        try simp only [Act.put, List.setIfInBounds_toArray, List.set_cons_zero, List.set_cons_succ]
        refine held_call 4 (by kernel_rfl) rfl (by rfl) (fun K hK => ?_)
        go_simp
        have hnw := Lib.hid (IntsAt.made wr.drew 56 [y] 1 rfl (by omega) (by intro n hn; rw [List.mem_singleton] at hn; subst hn; exact hy12.out))
        have hbn : Below wr.heap.size wr (wr.drew.alloc (.cells ([y].map (Value.int .i64)).toArray 56)) := (Below.refl _ _).drew.alloc (Nat.le_refl _) _
        simp only [List.map_cons, List.map_nil] at hnw hbn
        have hnorm : wr.drew.alloc (.cells [Value.int .i64 y].toArray 56) = (wr.alloc (.cells [Value.int .i64 y].toArray 56)).drew := rfl
        rw [hnorm] at hnw hbn
        clear hnorm
        obtain ⟨wn, hnew⟩ : ∃ wn, (wr.alloc (.cells [Value.int .i64 y].toArray 56)).drew = wn := ⟨_, rfl⟩
        rw [hnew] at hnw hbn ⊢
        clear hnew
        have hbn' := Lib.hid hbn
        have hrowq := Lib.hid (row_kept hrow.out hbn)
        clear hbn
        have uL := (hJT.out.kept hbn'.out).see.2.1
        refine hK.out _ _ trivial (fun hHeld => ?_)
        try simp only [Act.put, List.setIfInBounds_toArray, List.set_cons_zero, List.set_cons_succ]
        refine held_call 5 (by kernel_rfl) rfl (by rfl) (fun K hK => ?_)
        refine wp_append_ints _ _ 32 56 rfl Try.underlying32 (by kernel_rfl) wB.heap.size _ k (xs.take k) rfl hrowq.out _ 1 1 [y] rfl hnw.out (fun e => by cases e) (by omega) (Nat.le_trans hbr.out.size hbn'.out.size) ?_
        rintro v5 w5 o5 g5 -
        rw [← HST.out] at o5
        obtain ⟨g5', c5, rfl⟩ := Joins.ownsRow_form o5 (by omega)
        have hS5 := Lib.hid ((hbr.out.later hbn'.out).grown g5 (fun q hq => (hrowq.out.lt q hq).1))
        have o5' := Lib.hid (row_far (p := ⟨w.heap.size + 1, 1, none⟩) (u := (.slice (some ⟨g5', 0, none⟩) (k + 1) c5)) o5 (by show w.heap.size + 1 < wB.heap.size; omega))
        have JT5 : GAt w5 (w.heap.size + 1) (.slice sa sl sc) t := (g5.block _ (Nat.lt_of_lt_of_le hJT.out.lt hbn'.out.size) (fun e => by have := (hrowq.out.lt _ e.symm).1; omega)).trans (hJT.out.kept hbn'.out)
        have JT6 := Lib.hid (show GAt (w5.setCell ⟨w.heap.size + 1, 1, none⟩ (.slice (some ⟨g5', 0, none⟩) (k + 1) c5)) (w.heap.size + 1) (.slice sa sl sc) (.slice (some ⟨g5', 0, none⟩) (k + 1) c5) from Joins.block_setCell (i := 1) JT5 (.slice (some ⟨g5', 0, none⟩) (k + 1) c5))
        have hS6 := Lib.hid (hS5.out.setCell (g := w.heap.size + 1) rfl 1 (.slice (some ⟨g5', 0, none⟩) (k + 1) c5))
        obtain ⟨-, q1, -, qf⟩ := JT5.see
        clear o5 g5 JT5 hnw
        refine hK.out _ _ trivial (fun hHeld => ?_)
        try simp only [Act.put, List.setIfInBounds_toArray, List.set_cons_zero, List.set_cons_succ]
        refine held_take 6 (.pointer (some ⟨w.heap.size + 1, 1, none⟩)) rfl (by kernel_rfl) (by kernel_rfl) (by kernel_rfl) (fun _ _ _ h => h) (by rfl) (by intro w' hS; go_simp) (by assumption) ?_
        try simp only [Act.put, List.setIfInBounds_toArray, List.set_cons_zero, List.set_cons_succ]
        refine held_call 7 (by kernel_rfl) rfl (by rfl) (fun K hK => ?_)
        go_simp
        refine hK.out _ _ trivial (fun hHeld => ?_)
        try simp only [Act.put, List.setIfInBounds_toArray, List.set_cons_zero, List.set_cons_succ]
        refine wpAnyH_done (by kernel_rfl) ?_ _
        go_wp2_with fail
        go_roundw
        case rel => exact ⟨k + 1, _, by omega, by go_num, JT6, o5', hS6⟩
        case measure => (simp [intOf]; try omega)
      · go_simp
        refine (I1.out _).mono ?_
        rintro e _ ⟨rfl, rfl⟩
        go_wp2_with fail
        refine hK.out _ _ trivial (fun hHeld => ?_)
        try simp only [Act.put, List.setIfInBounds_toArray, List.set_cons_zero, List.set_cons_succ]
        refine held_two 1 4 (by kernel_rfl) rfl rfl (by rfl) (by rfl) (fun K hK => ?_) (fun K hK => ?_)
        · go_simp
          refine hK.out _ _ trivial (fun hHeld => ?_)
          try simp only [Act.put, List.setIfInBounds_toArray, List.set_cons_zero, List.set_cons_succ]
          refine held_call 4 (by kernel_rfl) rfl (by rfl) (fun K hK => ?_)
          go_simp
          have hnw := Lib.hid (IntsAt.made wr.drew 56 [y] 1 rfl (by omega) (by intro n hn; rw [List.mem_singleton] at hn; subst hn; exact hy12.out))
          have hbn : Below wr.heap.size wr (wr.drew.alloc (.cells ([y].map (Value.int .i64)).toArray 56)) := (Below.refl _ _).drew.alloc (Nat.le_refl _) _
          simp only [List.map_cons, List.map_nil] at hnw hbn
          have hnorm : wr.drew.alloc (.cells [Value.int .i64 y].toArray 56) = (wr.alloc (.cells [Value.int .i64 y].toArray 56)).drew := rfl
          rw [hnorm] at hnw hbn
          clear hnorm
          obtain ⟨wn, hnew⟩ : ∃ wn, (wr.alloc (.cells [Value.int .i64 y].toArray 56)).drew = wn := ⟨_, rfl⟩
          rw [hnew] at hnw hbn ⊢
          clear hnew
          have hbn' := Lib.hid hbn
          have hrowq := Lib.hid (row_kept hrow.out hbn)
          clear hbn
          have uL := (hJT.out.kept hbn'.out).see.2.1
          refine hK.out _ _ trivial (fun hHeld => ?_)
          try simp only [Act.put, List.setIfInBounds_toArray, List.set_cons_zero, List.set_cons_succ]
          refine held_call 5 (by kernel_rfl) rfl (by rfl) (fun K hK => ?_)
          refine wp_append_ints _ _ 32 56 rfl Try.underlying32 (by kernel_rfl) wB.heap.size _ k (xs.take k) rfl hrowq.out _ 1 1 [y] rfl hnw.out (fun e => by cases e) (by omega) (Nat.le_trans hbr.out.size hbn'.out.size) ?_
          rintro v5 w5 o5 g5 -
          rw [← HST.out] at o5
          obtain ⟨g5', c5, rfl⟩ := Joins.ownsRow_form o5 (by omega)
          have hS5 := Lib.hid ((hbr.out.later hbn'.out).grown g5 (fun q hq => (hrowq.out.lt q hq).1))
          have o5' := Lib.hid (row_far (p := ⟨w.heap.size + 1, 1, none⟩) (u := (.slice (some ⟨g5', 0, none⟩) (k + 1) c5)) o5 (by show w.heap.size + 1 < wB.heap.size; omega))
          have JT5 : GAt w5 (w.heap.size + 1) (.slice sa sl sc) t := (g5.block _ (Nat.lt_of_lt_of_le hJT.out.lt hbn'.out.size) (fun e => by have := (hrowq.out.lt _ e.symm).1; omega)).trans (hJT.out.kept hbn'.out)
          have JT6 := Lib.hid (show GAt (w5.setCell ⟨w.heap.size + 1, 1, none⟩ (.slice (some ⟨g5', 0, none⟩) (k + 1) c5)) (w.heap.size + 1) (.slice sa sl sc) (.slice (some ⟨g5', 0, none⟩) (k + 1) c5) from Joins.block_setCell (i := 1) JT5 (.slice (some ⟨g5', 0, none⟩) (k + 1) c5))
          have hS6 := Lib.hid (hS5.out.setCell (g := w.heap.size + 1) rfl 1 (.slice (some ⟨g5', 0, none⟩) (k + 1) c5))
          obtain ⟨-, q1, -, qf⟩ := JT5.see
          clear o5 g5 JT5 hnw
          refine hK.out _ _ trivial (fun hHeld => ?_)
          try simp only [Act.put, List.setIfInBounds_toArray, List.set_cons_zero, List.set_cons_succ]
          refine held_take 6 (.pointer (some ⟨w.heap.size + 1, 1, none⟩)) rfl (by kernel_rfl) (by kernel_rfl) (by kernel_rfl) (fun _ _ _ h => h) (by rfl) (by intro w' hS; go_simp) (by assumption) ?_
          try simp only [Act.put, List.setIfInBounds_toArray, List.set_cons_zero, List.set_cons_succ]
          refine held_call 7 (by kernel_rfl) rfl (by rfl) (fun K hK => ?_)
          go_simp
          refine hK.out _ _ trivial (fun hHeld => ?_)
          try simp only [Act.put, List.setIfInBounds_toArray, List.set_cons_zero, List.set_cons_succ]
          refine wpAnyH_done (by kernel_rfl) ?_ _
          go_wp2_with fail
          go_roundw
          case rel => exact ⟨k + 1, _, by omega, by go_num, JT6, o5', hS6⟩
          case measure => (simp [intOf]; try omega)
        · go_simp
          have hnw := Lib.hid (IntsAt.made wr.drew 56 [y] 1 rfl (by omega) (by intro n hn; rw [List.mem_singleton] at hn; subst hn; exact hy12.out))
          have hbn : Below wr.heap.size wr (wr.drew.alloc (.cells ([y].map (Value.int .i64)).toArray 56)) := (Below.refl _ _).drew.alloc (Nat.le_refl _) _
          simp only [List.map_cons, List.map_nil] at hnw hbn
          have hnorm : wr.drew.alloc (.cells [Value.int .i64 y].toArray 56) = (wr.alloc (.cells [Value.int .i64 y].toArray 56)).drew := rfl
          rw [hnorm] at hnw hbn
          clear hnorm
          obtain ⟨wn, hnew⟩ : ∃ wn, (wr.alloc (.cells [Value.int .i64 y].toArray 56)).drew = wn := ⟨_, rfl⟩
          rw [hnew] at hnw hbn ⊢
          clear hnew
          have hbn' := Lib.hid hbn
          have hrowq := Lib.hid (row_kept hrow.out hbn)
          clear hbn
          have uL := (hJT.out.kept hbn'.out).see.2.1
          refine hK.out _ _ trivial (fun hHeld => ?_)
          try simp only [Act.put, List.setIfInBounds_toArray, List.set_cons_zero, List.set_cons_succ]
          refine held_call 1 (by kernel_rfl) rfl (by rfl) (fun K hK => ?_)
          go_simp
          refine hK.out _ _ trivial (fun hHeld => ?_)
          try simp only [Act.put, List.setIfInBounds_toArray, List.set_cons_zero, List.set_cons_succ]
          refine held_call 5 (by kernel_rfl) rfl (by rfl) (fun K hK => ?_)
          refine wp_append_ints _ _ 32 56 rfl Try.underlying32 (by kernel_rfl) wB.heap.size _ k (xs.take k) rfl hrowq.out _ 1 1 [y] rfl hnw.out (fun e => by cases e) (by omega) (Nat.le_trans hbr.out.size hbn'.out.size) ?_
          rintro v5 w5 o5 g5 -
          rw [← HST.out] at o5
          obtain ⟨g5', c5, rfl⟩ := Joins.ownsRow_form o5 (by omega)
          have hS5 := Lib.hid ((hbr.out.later hbn'.out).grown g5 (fun q hq => (hrowq.out.lt q hq).1))
          have o5' := Lib.hid (row_far (p := ⟨w.heap.size + 1, 1, none⟩) (u := (.slice (some ⟨g5', 0, none⟩) (k + 1) c5)) o5 (by show w.heap.size + 1 < wB.heap.size; omega))
          have JT5 : GAt w5 (w.heap.size + 1) (.slice sa sl sc) t := (g5.block _ (Nat.lt_of_lt_of_le hJT.out.lt hbn'.out.size) (fun e => by have := (hrowq.out.lt _ e.symm).1; omega)).trans (hJT.out.kept hbn'.out)
          have JT6 := Lib.hid (show GAt (w5.setCell ⟨w.heap.size + 1, 1, none⟩ (.slice (some ⟨g5', 0, none⟩) (k + 1) c5)) (w.heap.size + 1) (.slice sa sl sc) (.slice (some ⟨g5', 0, none⟩) (k + 1) c5) from Joins.block_setCell (i := 1) JT5 (.slice (some ⟨g5', 0, none⟩) (k + 1) c5))
          have hS6 := Lib.hid (hS5.out.setCell (g := w.heap.size + 1) rfl 1 (.slice (some ⟨g5', 0, none⟩) (k + 1) c5))
          obtain ⟨-, q1, -, qf⟩ := JT5.see
          clear o5 g5 JT5 hnw
          refine hK.out _ _ trivial (fun hHeld => ?_)
          try simp only [Act.put, List.setIfInBounds_toArray, List.set_cons_zero, List.set_cons_succ]
          refine held_take 6 (.pointer (some ⟨w.heap.size + 1, 1, none⟩)) rfl (by kernel_rfl) (by kernel_rfl) (by kernel_rfl) (fun _ _ _ h => h) (by rfl) (by intro w' hS; go_simp) (by assumption) ?_
          try simp only [Act.put, List.setIfInBounds_toArray, List.set_cons_zero, List.set_cons_succ]
          refine held_call 7 (by kernel_rfl) rfl (by rfl) (fun K hK => ?_)
          go_simp
          refine hK.out _ _ trivial (fun hHeld => ?_)
          try simp only [Act.put, List.setIfInBounds_toArray, List.set_cons_zero, List.set_cons_succ]
          refine wpAnyH_done (by kernel_rfl) ?_ _
          go_wp2_with fail
          go_roundw
          case rel => exact ⟨k + 1, _, by omega, by go_num, JT6, o5', hS6⟩
          case measure => (simp [intOf]; try omega)
    · obtain rfl : k = n := by omega
      rw [List.take_of_length_le (by rw [hxl.out]; omega)] at hrow
      obtain ⟨t0, t1, -, -⟩ := hJT.out.see
      have JR := hbr.out.gat J1'.out (by omega)
      obtain ⟨e0, e1, f0, f1⟩ := JR.see
      have hS9 := hbr.out.below z.out z.out.size (fun k hk => by subst hk; omega)
      rcases Joins.ownsRow_forms hrow.out with ⟨rfl, e2⟩ | ⟨g, c, rfl⟩
      · obtain ⟨h0, h1, -, -⟩ := (JR.set (.slice sa sl sc) (.slice none 0 0)).see
        subst e2
        have P := Lib.hid (Joins.ownsRow_le (row_far (p := ⟨w.heap.size, 1, none⟩) (u := .slice none 0 0) (row_far (p := ⟨w.heap.size, 0, none⟩) (u := .slice sa sl sc) hrow.out (by show w.heap.size < wB.heap.size; omega)) (by show w.heap.size < wB.heap.size; omega)) z.out.size)
        have Q := Lib.hid ((hS9.setCell (p := ⟨w.heap.size, 0, none⟩) (Nat.le_refl _) (.slice sa sl sc)).setCell (p := ⟨w.heap.size, 1, none⟩) (Nat.le_refl _) (.slice none 0 0))
        go_wp2_with fail
        refine bodyPost_ret (v := .agg #[.slice sa sl sc, .slice none 0 0]) ?_ rfl ⟨none, 0, rfl, P.out, Q.out⟩
        simp [results, Try.results26, go_sem, h0, h1]
      · obtain ⟨h0, h1, -, -⟩ := (JR.set (.slice sa sl sc) (.slice (some ⟨g, 0, none⟩) k c)).see
        have P := Lib.hid (Joins.ownsRow_le (row_far (p := ⟨w.heap.size, 1, none⟩) (u := .slice (some ⟨g, 0, none⟩) k c) (row_far (p := ⟨w.heap.size, 0, none⟩) (u := .slice sa sl sc) hrow.out (by show w.heap.size < wB.heap.size; omega)) (by show w.heap.size < wB.heap.size; omega)) z.out.size)
        have Q := Lib.hid ((hS9.setCell (p := ⟨w.heap.size, 0, none⟩) (Nat.le_refl _) (.slice sa sl sc)).setCell (p := ⟨w.heap.size, 1, none⟩) (Nat.le_refl _) (.slice (some ⟨g, 0, none⟩) k c))
        go_wp2_with fail
        refine bodyPost_ret (v := .agg #[.slice sa sl sc, .slice (some ⟨g, 0, none⟩) k c]) ?_ rfl ⟨_, _, rfl, P.out, Q.out⟩
        simp [results, Try.results26, go_sem, h0, h1]

end Go.Proofs.Ytapelgjnnccfoaa

/-
  A tensor as an argument.
-/
namespace Go.Proofs.Ytapelgjnnccfoaa
open Go.RowKit Go.ChangeShapes Go.WideShapes Go.Deep
set_option linter.unusedVariables false
set_option linter.unusedSimpArgs false

set_option maxRecDepth 100000 in
theorem grid_arg {H : Type} {enc : TypeId × Value → H} {w : World} {base : Nat} {spare : Nat → Bool} {held : Bool} {r : Reach} {b0 : Nat} {v : Value} {d : DataW H} {p : List MemPlace} (hv : Value.okWide Try.prog w r b0 34 v)
    (h : DataW.Trod enc Try.prog w base spare held 34 v d p) (hw : ∀ n ∈ d.weights Try.prog 34, n ≤ reachBytes) :
    ∃ t : TV, v = .agg #[.slice (TV.sa t) (TV.sl t) (TV.sc t), .slice (TV.ca t) (TV.cl t) (TV.cc t)] ∧ t.At w ∧ t.Cap := by
  obtain ⟨⟨l⟩, rfl, hsz⟩ := okWide_struct Try.underlying34 hv
  obtain ⟨fuel, hf⟩ := h
  replace hsz : l.length = Try.prog.cellsOf 34 := hsz
  rw [gcellsG] at hsz
  match l, hsz with
  | [c0, c1], _ =>
    obtain ⟨t, e0, e1, A, C⟩ := grid_one2 (x := (d, p)) hf hw
    subst e0 e1
    exact ⟨t, rfl, A, C⟩
end Go.Proofs.Ytapelgjnnccfoaa

/-
  The statements' case of layer 7: three tensors and a step, in a block and as an argument; few, small, refused.
-/
namespace Go.Proofs.Ytapelgjnnccfoaa
open Go.RowKit Go.ChangeShapes Go.WideShapes Go.Deep
set_option linter.unusedVariables false
set_option linter.unusedSimpArgs false

/-- A block holds a case. -/
def C7At (w : World) (K : Nat) (a b c d e f g : Value) : Prop := w.heap[K]? = some (.cells #[a, b, c, d, e, f, g] 36 (0, 0))
section
variable {w w' : World} {K : Nat} {a b c d e f g : Value}
theorem C7At.lt (q : C7At w K a b c d e f g) : K < w.heap.size := (Array.getElem?_eq_some_iff.1 q).1
theorem C7At.kept (q : C7At w K a b c d e f g) (hb : Below w.heap.size w w') : C7At w' K a b c d e f g := (hb.block K q.lt).trans q
theorem C7At.see (q : C7At w K a b c d e f g) : (w.cell? ⟨K, 0, none⟩ = some a ∧ w.cell? ⟨K, 1, none⟩ = some b) ∧ (w.cell? ⟨K, 2, none⟩ = some c ∧ w.cell? ⟨K, 3, none⟩ = some d) ∧ (w.cell? ⟨K, 4, none⟩ = some e ∧ w.cell? ⟨K, 5, none⟩ = some f) ∧ w.cell? ⟨K, 6, none⟩ = some g := by
  refine ⟨⟨?_, ?_⟩, ⟨?_, ?_⟩, ⟨?_, ?_⟩, ?_⟩ <;> (rw [Joins.cell_of_block q]; rfl)
end
theorem case7_box (w : World) (a b c d e f g : Value) : ∃ wB, Hid (w.alloc (.cells #[a, b, c, d, e, f, g] 36) = wB) ∧ Hid (C7At wB w.heap.size a b c d e f g) ∧ Hid (Below w.heap.size w wB) ∧ Hid (wB.heap.size = w.heap.size + 1) :=
  ⟨_, Lib.hid rfl, Lib.hid (World.alloc_heap_new w _), Lib.hid ((Below.refl _ _).alloc (Nat.le_refl _) _), Lib.hid (by simp)⟩

section
variable {H : Type} {enc : TypeId × Value → H} {w : World} {base : Nat} {spare : Nat → Bool} {held : Bool}
theorem grid_sized3 {n : Nat} {v0 v1 : Value} {d0 d1 : DataW H} {p0 p1 : List MemPlace} (h0 : DataW.trod enc Try.prog w base spare held n 23 [v0] = some (d0, p0)) (h1 : DataW.trod enc Try.prog w base spare held n 32 [v1] = some (d1, p1))
    (w0 : ∀ n ∈ d0.weights Try.prog 23, n ≤ reachBytes) (w1 : ∀ n ∈ d1.weights Try.prog 32, n ≤ reachBytes) :
    ∃ t : TV, v0 = .slice t.sa t.sl t.sc ∧ v1 = .slice t.ca t.cl t.cc ∧ t.At w ∧ t.Cap ∧ t.CapS := by
  obtain ⟨sa, sl, sc, ss, rfl, i0, l0, k1, k2⟩ := field_ints_sized Try.underlying23 Try.underlying3 (by kernel_rfl) gbytesI h0 w0
  obtain ⟨ca, cl, cc, cs, rfl, i1, l1, m1, m2⟩ := field_ints_sized Try.underlying32 Try.underlying56 (by kernel_rfl) gbytesF h1 w1
  exact ⟨⟨sa, sl, sc, ss, ca, cl, cc, cs⟩, rfl, rfl, ⟨i0, i1, l0, l1⟩, ⟨m1, m2⟩, k1, k2⟩
theorem grid_one3 {fuel : Nat} {c0 c1 : Value} {x : DataW H × List MemPlace} (h : DataW.trod enc Try.prog w base spare held fuel 34 [c0, c1] = some x) (hw : ∀ n ∈ x.1.weights Try.prog 34, n ≤ reachBytes) :
    ∃ t : TV, c0 = .slice t.sa t.sl t.sc ∧ c1 = .slice t.ca t.cl t.cc ∧ t.At w ∧ t.Cap ∧ t.CapS := by
  obtain ⟨xs, n, -, hxy, -, hxl, hat⟩ := DataW.trod_struct Try.underlying34 h
  match xs, hxl with
  | [(d0, p0), (d1, p1)], _ =>
    have h0 := hat 0 _ rfl
    have h1 := hat 1 _ rfl
    have g0 : DataW.trod enc Try.prog w base spare held n 23 (([c0, c1].drop 0).take (Try.prog.cellsOf 23)) = some (d0, p0) := h0
    have g1 : DataW.trod enc Try.prog w base spare held n 32 (([c0, c1].drop 1).take (Try.prog.cellsOf 32)) = some (d1, p1) := h1
    rw [gcellsS] at g0
    rw [gcellsF] at g1
    have ex : x.1 = .agg [d0, d1] := by rw [hxy]; rfl
    rw [ex] at hw
    exact grid_sized3 (n := n) (v0 := c0) (v1 := c1) g0 g1 (fun n hn => hw n (agg_weights (.inl hn))) (fun n hn => hw n (agg_weights (.inr hn)))

theorem gcellsI : Try.prog.cellsOf 3 = 1 := by kernel_rfl
theorem ccells7 : Try.prog.cellsOf 36 = 7 := by kernel_rfl
set_option maxRecDepth 100000 in
theorem case7_open {r : Reach} {b0 : Nat} {v : Value} {d : DataW H} {p : List MemPlace} (hv : Value.okWide Try.prog w r b0 36 v)
    (h : DataW.Trod enc Try.prog w base spare held 36 v d p) (hw : ∀ n ∈ d.weights Try.prog 36, n ≤ reachBytes) :
    ∃ (W x G : TV) (s : Int), v = .agg #[.slice (TV.sa W) (TV.sl W) (TV.sc W), .slice (TV.ca W) (TV.cl W) (TV.cc W), .slice (TV.sa x) (TV.sl x) (TV.sc x), .slice (TV.ca x) (TV.cl x) (TV.cc x), .slice (TV.sa G) (TV.sl G) (TV.sc G), .slice (TV.ca G) (TV.cl G) (TV.cc G), .int .i64 s] ∧
      ((W.At w ∧ W.CapS) ∧ (x.At w ∧ x.CapS) ∧ G.At w ∧ -9223372036854775808 ≤ s ∧ s ≤ 9223372036854775807) := by
  obtain ⟨⟨l⟩, rfl, hsz⟩ := okWide_struct Try.underlying36 hv
  obtain ⟨fuel, hf⟩ := h
  obtain ⟨xs, n, -, hxy, -, hxl, hat⟩ := DataW.trod_struct Try.underlying36 hf
  replace hsz : l.length = Try.prog.cellsOf 36 := hsz
  rw [ccells7] at hsz
  match l, hsz, xs, hxl with
  | [c0, c1, c2, c3, c4, c5, c6], _, [(d0, p0), (d1, p1), (d2, p2), (d3, p3)], _ =>
    have ed : d = .agg [d0, d1, d2, d3] := by
      have := congrArg Prod.fst hxy
      exact this
    rw [ed] at hw
    have hwe : ∀ {j : Nat} {t : TypeId} {x : DataW H}, [34, 34, 34, 3][j]? = some t → [d0, d1, d2, d3][j]? = some x → ∀ n ∈ x.weights Try.prog t, n ≤ reachBytes := fun ht hd n hn => hw n (by
      simp only [DataW.weights, Try.underlying36]
      exact DataW.weights_mem_each ht hd n hn)
    have h0 := hat 0 _ rfl
    have g0 : DataW.trod enc Try.prog w base spare held n 34 (([c0, c1, c2, c3, c4, c5, c6].drop 0).take (Try.prog.cellsOf 34)) = some (d0, p0) := h0
    rw [gcellsG] at g0
    replace g0 : DataW.trod enc Try.prog w base spare held n 34 [c0, c1] = some (d0, p0) := g0
    obtain ⟨t0, e0a, e0b, A0, C0, S0⟩ := grid_one3 g0 (hwe (j := 0) rfl rfl)
    have h1 := hat 1 _ rfl
    have g1 : DataW.trod enc Try.prog w base spare held n 34 (([c0, c1, c2, c3, c4, c5, c6].drop 2).take (Try.prog.cellsOf 34)) = some (d1, p1) := h1
    rw [gcellsG] at g1
    replace g1 : DataW.trod enc Try.prog w base spare held n 34 [c2, c3] = some (d1, p1) := g1
    obtain ⟨t1, e1a, e1b, A1, C1, S1⟩ := grid_one3 g1 (hwe (j := 1) rfl rfl)
    have h2 := hat 2 _ rfl
    have g2 : DataW.trod enc Try.prog w base spare held n 34 (([c0, c1, c2, c3, c4, c5, c6].drop 4).take (Try.prog.cellsOf 34)) = some (d2, p2) := h2
    rw [gcellsG] at g2
    replace g2 : DataW.trod enc Try.prog w base spare held n 34 [c4, c5] = some (d2, p2) := g2
    obtain ⟨t2, e2a, e2b, A2, C2, S2⟩ := grid_one3 g2 (hwe (j := 2) rfl rfl)
    have h3 := hat 3 _ rfl
    have g3 : DataW.trod enc Try.prog w base spare held n 3 (([c0, c1, c2, c3, c4, c5, c6].drop 6).take (Try.prog.cellsOf 3)) = some (d3, p3) := h3
    rw [gcellsI] at g3
    replace g3 : DataW.trod enc Try.prog w base spare held n 3 [c6] = some (d3, p3) := g3
    obtain ⟨s, e3, u1, u2⟩ := field_int Try.underlying3 g3
    subst e0a e0b e1a e1b e2a e2b e3
    exact ⟨t0, t1, t2, s, rfl, ⟨A0, S0⟩, ⟨A1, S1⟩, A2, by omega, by omega⟩
/-- A shape as an argument: a tensor's value without cells. -/
theorem shape_tv {a : Option Addr} {l c : Nat} {zs : List Int} (i : IntsAt w a l zs) (l0 : l ≤ 17592186044416) : TV.At ⟨a, l, c, zs, none, 0, 0, []⟩ w := ⟨i, IntsAt.nil _ _, l0, Nat.zero_le _⟩
set_option maxRecDepth 100000 in
theorem shape_arg {r : Reach} {b0 : Nat} {v : Value} {d : DataW H} {p : List MemPlace} (hv : Value.okWide Try.prog w r b0 23 v)
    (h : DataW.Trod enc Try.prog w base spare held 23 v d p) (hw : ∀ n ∈ d.weights Try.prog 23, n ≤ reachBytes) :
    ∃ t : TV, v = .slice (TV.sa t) (TV.sl t) (TV.sc t) ∧ (t.At w ∧ t.CapS) := by
  obtain ⟨a, l, c, rfl⟩ := okWide_slice Try.underlying23 hv
  obtain ⟨fuel, hf⟩ := h
  obtain ⟨sa, sl, sc, ss, e, i0, l0, k1, k2⟩ := field_ints_sized (x := (d, p)) (c := .slice a l c) Try.underlying23 Try.underlying3 (by kernel_rfl) gbytesI hf hw
  exact ⟨⟨sa, sl, sc, ss, none, 0, 0, []⟩, e, shape_tv i0 l0, k1, k2⟩
end

def fewC (a b : Nat) : Bool := decide (a ≤ 9) && decide (b ≤ 9)
set_option maxHeartbeats 1000000 in
theorem few_any (a1 : Option Addr) (l1 c1 : Nat) (a2 : Option Addr) (l2 c2 : Nat) (w : World) :
    Calls Try.prog 8 #[.slice a1 l1 c1, .slice a2 l2 c2] w fun e w' => e = .returned (.bool (fewC l1 l2)) ∧ w = w' := by
  unfold fewC
  by_cases c0 : l1 ≤ 9
  case neg =>
    have d0 : decide ((l1 : Int) ≤ 9) = false := decide_eq_false (by omega)
    have f0 : decide (l1 ≤ 9) = false := decide_eq_false (by omega)
    clear c0
    rw [f0]
    go_enter Try.func8, Try.ntmps8
    go_wp2_with fail
    go_ret
    exact ⟨rfl, rfl⟩
  have d0 : decide ((l1 : Int) ≤ 9) = true := decide_eq_true (by omega)
  have f0 : decide (l1 ≤ 9) = true := decide_eq_true c0
  have E : Hid (decide ((l2 : Int) ≤ 9) = (true && decide (l2 ≤ 9))) := Lib.hid (by
    by_cases c : l2 ≤ 9
    · rw [decide_eq_true c, decide_eq_true (by omega)]; rfl
    · rw [decide_eq_false c, decide_eq_false (by omega)]; rfl)
  clear c0
  rw [f0]
  go_enter Try.func8, Try.ntmps8
  go_wp2_with fail
  go_ret
  exact ⟨ret_bool E.out, rfl⟩

/-- May a case be gone through? -/
def smallC (W x G : TV) : Bool := fewC W.sl x.sl && (decide (G.sl ≤ 9) && (decide (W.cl ≤ 200) && (decide (x.cl ≤ 200) && decide (G.cl ≤ 400))))
theorem smallC_parts {W x G : TV} (h : smallC W x G = true) : (W.sl ≤ 9 ∧ x.sl ≤ 9) ∧ G.sl ≤ 9 ∧ W.cl ≤ 200 ∧ x.cl ≤ 200 ∧ G.cl ≤ 400 := by
  simpa [smallC, fewC] using h

set_option maxHeartbeats 2000000 in
theorem small7_any (W x G : TV) (s : Int) (w : World) :
    Calls Try.prog 13 #[.agg #[.slice W.sa W.sl W.sc, .slice W.ca W.cl W.cc, .slice x.sa x.sl x.sc, .slice x.ca x.cl x.cc, .slice G.sa G.sl G.sc, .slice G.ca G.cl G.cc, .int .i64 s]] w fun e w' => e = .returned (.bool (smallC W x G)) ∧ Below w.heap.size w w' := by
  unfold smallC
  have FE := Lib.hid (fun w1 => flipW (few_any W.sa W.sl W.sc x.sa x.sl x.sc w1))
  obtain ⟨wA, hwA, J, z, -⟩ := case7_box w (.slice W.sa W.sl W.sc) (.slice W.ca W.cl W.cc) (.slice x.sa x.sl x.sc) (.slice x.ca x.cl x.cc) (.slice G.sa G.sl G.sc) (.slice G.ca G.cl G.cc) (.int .i64 s)
  obtain ⟨⟨j0, j1⟩, ⟨j2, j3⟩, ⟨j4, j5⟩, j6⟩ := J.out.see
  cases cf : fewC W.sl x.sl
  case false =>
    have F := Lib.hid cf
    have E : Hid (false = (false && (decide (G.sl ≤ 9) && (decide (W.cl ≤ 200) && (decide (x.cl ≤ 200) && decide (G.cl ≤ 400)))))) := Lib.hid rfl
    clear cf
    go_enter Try.func13, Try.ntmps13
    go_upto_region 1 with (fail)
    rw [hwA.out]
    go_wp2_with fail
    refine (FE.out wA).mono ?_
    rintro e w1 ⟨rfl, rfl⟩
    rw [F.out]
    go_wp2_with fail
    go_ret
    exact ⟨ret_bool E.out, z.out⟩
  have F := Lib.hid cf
  clear cf
  by_cases cg : G.sl ≤ 9
  case neg =>
    have E : Hid (false = (true && (decide (G.sl ≤ 9) && (decide (W.cl ≤ 200) && (decide (x.cl ≤ 200) && decide (G.cl ≤ 400)))))) := Lib.hid (by simp [cg])
    have dg : decide ((G.sl : Int) ≤ 9) = false := decide_eq_false (by omega)
    clear cg
    go_enter Try.func13, Try.ntmps13
    go_upto_region 1 with (fail)
    rw [hwA.out]
    go_wp2_with fail
    refine (FE.out wA).mono ?_
    rintro e w1 ⟨rfl, rfl⟩
    rw [F.out]
    go_wp2_with fail
    go_ret
    exact ⟨ret_bool E.out, z.out⟩
  have dg : decide ((G.sl : Int) ≤ 9) = true := decide_eq_true (by omega)
  by_cases ca : W.cl ≤ 200
  case neg =>
    have E : Hid (false = (true && (decide (G.sl ≤ 9) && (decide (W.cl ≤ 200) && (decide (x.cl ≤ 200) && decide (G.cl ≤ 400)))))) := Lib.hid (by simp [cg, ca])
    have da : decide ((W.cl : Int) ≤ 200) = false := decide_eq_false (by omega)
    clear ca
    go_enter Try.func13, Try.ntmps13
    go_upto_region 1 with (fail)
    rw [hwA.out]
    go_wp2_with fail
    refine (FE.out wA).mono ?_
    rintro e w1 ⟨rfl, rfl⟩
    rw [F.out]
    go_wp2_with fail
    go_ret
    exact ⟨ret_bool E.out, z.out⟩
  have da : decide ((W.cl : Int) ≤ 200) = true := decide_eq_true (by omega)
  by_cases cb : x.cl ≤ 200
  case neg =>
    have E : Hid (false = (true && (decide (G.sl ≤ 9) && (decide (W.cl ≤ 200) && (decide (x.cl ≤ 200) && decide (G.cl ≤ 400)))))) := Lib.hid (by simp [cg, ca, cb])
    have db : decide ((x.cl : Int) ≤ 200) = false := decide_eq_false (by omega)
    clear cb
    go_enter Try.func13, Try.ntmps13
    go_upto_region 1 with (fail)
    rw [hwA.out]
    go_wp2_with fail
    refine (FE.out wA).mono ?_
    rintro e w1 ⟨rfl, rfl⟩
    rw [F.out]
    go_wp2_with fail
    go_ret
    exact ⟨ret_bool E.out, z.out⟩
  have db : decide ((x.cl : Int) ≤ 200) = true := decide_eq_true (by omega)
  by_cases cc : G.cl ≤ 400
  case neg =>
    have E : Hid (false = (true && (decide (G.sl ≤ 9) && (decide (W.cl ≤ 200) && (decide (x.cl ≤ 200) && decide (G.cl ≤ 400)))))) := Lib.hid (by simp [cg, ca, cb, cc])
    have dc : decide ((G.cl : Int) ≤ 400) = false := decide_eq_false (by omega)
    clear cc
    go_enter Try.func13, Try.ntmps13
    go_upto_region 1 with (fail)
    rw [hwA.out]
    go_wp2_with fail
    refine (FE.out wA).mono ?_
    rintro e w1 ⟨rfl, rfl⟩
    rw [F.out]
    go_wp2_with fail
    go_ret
    exact ⟨ret_bool E.out, z.out⟩
  have dc : decide ((G.cl : Int) ≤ 400) = true := decide_eq_true (by omega)
  have E : Hid (true = (true && (decide (G.sl ≤ 9) && (decide (W.cl ≤ 200) && (decide (x.cl ≤ 200) && decide (G.cl ≤ 400)))))) := Lib.hid (by simp [cg, ca, cb, cc])
  clear cg ca cb cc
  go_enter Try.func13, Try.ntmps13
  go_upto_region 1 with (fail)
  rw [hwA.out]
  go_wp2_with fail
  refine (FE.out wA).mono ?_
  rintro e w1 ⟨rfl, rfl⟩
  rw [F.out]
  go_wp2_with fail
  go_ret
  exact ⟨ret_bool E.out, z.out⟩

set_option maxRecDepth 100000 in
set_option maxHeartbeats 2000000 in
theorem refused_any (W x G : TV) (s : Int) (w : World) (h : W.At w) (h' : x.At w) :
    Calls Try.prog 15 #[.agg #[.slice W.sa W.sl W.sc, .slice W.ca W.cl W.cc, .slice x.sa x.sl x.sc, .slice x.ca x.cl x.cc, .slice G.sa G.sl G.sc, .slice G.ca G.cl G.cc, .int .i64 s]] w fun e w' => e = .returned (.int .i64 (tensE W x s)) ∧ Below w.heap.size w w' := by
  obtain ⟨wA, hwA, J, z, -⟩ := case7_box w (.slice W.sa W.sl W.sc) (.slice W.ca W.cl W.cc) (.slice x.sa x.sl x.sc) (.slice x.ca x.cl x.cc) (.slice G.sa G.sl G.sc) (.slice G.ca G.cl G.cc) (.int .i64 s)
  have C := rright_any W.sa W.sl W.sc W.ss W.ca W.cl W.cc wA (h.1.kept z.out) (by have := h.2.2.2; omega)
  have D := fun w1 (hb : Below wA.heap.size wA w1) => rright_any x.sa x.sl x.sc x.ss x.ca x.cl x.cc w1 ((h'.1.kept z.out).kept hb) (by have := h'.2.2.2; omega)
  have S := Lib.hid (fun w1 (hb : Below wA.heap.size wA w1) => told_any W x s w1 ((h.kept z.out).kept hb) ((h'.kept z.out).kept hb))
  clear h h'
  cases b1 : rightT W.ss W.cl
  · rw [b1] at C
    have C1 := Lib.hid C
    have E := Lib.hid (tensE_no (W := W) (x := x) (s := s) (by rw [b1]; simp))
    clear C D S b1
    obtain ⟨⟨j0, j1⟩, ⟨j2, j3⟩, ⟨j4, j5⟩, j6⟩ := (J.out).see
    go_enter Try.func15, Try.ntmps15
    go_upto_region 1 with (fail)
    rw [hwA.out]
    go_wp2_with fail
    refine C1.out.mono ?_
    rintro e w1 ⟨rfl, hb⟩
    go_wp2_with fail
    go_ret
    exact ⟨ret_int E.out.symm, z.out.trans (hb.mono z.out.size)⟩
  rw [b1] at C
  have C1 := Lib.hid C
  clear C
  cases b2 : rightT x.ss x.cl
  · simp only [b2] at D
    have D1 := Lib.hid D
    have E := Lib.hid (tensE_no (W := W) (x := x) (s := s) (by rw [b2]; simp))
    clear D S b1 b2
    obtain ⟨⟨j0, j1⟩, ⟨j2, j3⟩, ⟨j4, j5⟩, j6⟩ := (J.out).see
    go_enter Try.func15, Try.ntmps15
    go_upto_region 1 with (fail)
    rw [hwA.out]
    go_wp2_with fail
    refine C1.out.mono ?_
    rintro e w1 ⟨rfl, hb⟩
    have b1 := Lib.hid hb
    clear j0 j1 j2 j3 j4 j5 j6
    clear hb C1
    obtain ⟨⟨j0, j1⟩, ⟨j2, j3⟩, ⟨j4, j5⟩, j6⟩ := (J.out.kept b1.out).see
    go_wp2_with fail
    refine (D1.out w1 b1.out).mono ?_
    rintro e w2 ⟨rfl, hb⟩
    go_wp2_with fail
    go_ret
    exact ⟨ret_int E.out.symm, z.out.trans ((b1.out.trans (hb.mono b1.out.size)).mono z.out.size)⟩
  simp only [b2] at D
  have D1 := Lib.hid D
  have E := Lib.hid (tensE_yes (W := W) (x := x) (s := s) b1 b2)
  clear D b1 b2
  obtain ⟨⟨j0, j1⟩, ⟨j2, j3⟩, ⟨j4, j5⟩, j6⟩ := (J.out).see
  go_enter Try.func15, Try.ntmps15
  go_upto_region 1 with (fail)
  rw [hwA.out]
  go_wp2_with fail
  refine C1.out.mono ?_
  rintro e w1 ⟨rfl, hb⟩
  have b1 := Lib.hid hb
  clear j0 j1 j2 j3 j4 j5 j6
  clear hb C1
  obtain ⟨⟨j0, j1⟩, ⟨j2, j3⟩, ⟨j4, j5⟩, j6⟩ := (J.out.kept b1.out).see
  go_wp2_with fail
  refine (D1.out w1 b1.out).mono ?_
  rintro e w2 ⟨rfl, hb⟩
  have b2 := Lib.hid (b1.out.trans (hb.mono b1.out.size))
  clear j0 j1 j2 j3 j4 j5 j6
  clear hb D1
  obtain ⟨⟨j0, j1⟩, ⟨j2, j3⟩, ⟨j4, j5⟩, j6⟩ := (J.out.kept b2.out).see
  go_wp2_with fail
  refine (S.out w2 b2.out).mono ?_
  rintro e w3 ⟨r1, r2⟩
  clear S
  by_cases t0 : toldE W.ss x.ss s = 0
  · obtain ⟨A, c, rfl, -, hb⟩ := r1 t0
    have b3 := Lib.hid (z.out.trans ((b2.out.trans (hb.mono b2.out.size)).mono z.out.size))
    have E' := Lib.hid (E.out.trans t0)
    clear r1 r2 t0 hb E
    go_wp2_with fail
    go_ret
    exact ⟨ret_int E'.out.symm, b3.out⟩
  · obtain ⟨rfl, hb⟩ := r2 t0
    have b3 := Lib.hid (z.out.trans ((b2.out.trans (hb.mono b2.out.size)).mono z.out.size))
    clear r1 r2 t0 hb
    obtain ⟨v, hv⟩ : ∃ v, toldE W.ss x.ss s = v := ⟨_, rfl⟩
    rw [hv] at E ⊢
    clear hv
    go_wp2_with fail
    go_ret
    exact ⟨ret_int E.out.symm, b3.out⟩
end Go.Proofs.Ytapelgjnnccfoaa

/-
  slices.Backward over a slice of integers: the contract of its closure.
-/
namespace Go.Proofs.Ytapelgjnnccfoaa
open Go.RowKit Go.Shelf
attribute [local go_sem] Oper.semAt_some
set_option linter.unusedVariables false
set_option linter.unusedSimpArgs false

/-- The indices and elements from the k-th down. -/
def backL (zs : List Int) : Nat → List (Nat × Int)
  | 0 => []
  | k + 1 => (k, zs.getD k 0) :: backL zs k

/-- The closure's box holds the slice, and the slice these integers. -/
def BackC (Bx : Nat) (a : Option Addr) (n cap : Nat) (zs : List Int) (W : World) : Prop := W.cell? ⟨Bx, 0, none⟩ = some (.slice a n cap) ∧ IntsAt W a n zs
def BackR (Bx : Nat) (a : Option Addr) : BSet := fun k => k = Bx ∨ ∃ ad, a = some ad ∧ k = ad.block
theorem BackC.round {Bx : Nat} {a : Option Addr} {n cap : Nat} {zs : List Int} {O : BSet} {W W' : World} (h : BackC Bx a n cap zs W) (hs : RdStep (fun k => BackR Bx a k ∨ O k) W W') : BackC Bx a n cap zs W' := by
  obtain ⟨h1, g1, g2, g3, g4⟩ := h
  refine ⟨hs.cell h1 (.inl (.inl rfl)), g1, g2, g3, ?_⟩
  rcases g4 with g4 | ⟨b, off, rfl, hc⟩
  · exact .inl g4
  · exact .inr ⟨b, off, rfl, fun j hj => hs.cell (hc j hj) (.inl (.inr ⟨_, rfl, rfl⟩))⟩

end Go.Proofs.Ytapelgjnnccfoaa
/-
  Plain mathematics of places: the indices of a place, and its number again.
-/
namespace Go.Proofs.Ytapelgjnnccfoaa
set_option linter.unusedVariables false
set_option linter.unusedSimpArgs false

/-- The indices of the place with number p. -/
def digs : List Int → Int → List Int
  | [], _ => []
  | x :: s, p => (p / prodI s) % x :: digs s p
theorem digs_length (s : List Int) (p : Int) : (digs s p).length = s.length := by
  induction s with
  | nil => rfl
  | cons x s ih => simp [digs, ih]

theorem allR_cons {lo hi x : Int} {l : List Int} (h : allR lo hi (x :: l) = true) : (lo ≤ x ∧ x ≤ hi) ∧ allR lo hi l = true := by
  unfold allR at *
  rw [List.all_cons, Bool.and_eq_true] at h
  exact ⟨inR_bounds h.1, h.2⟩

theorem inB_cons {x a : Int} {z : List (Int × Int)} (h : inB ((x, a) :: z) = true) : (0 ≤ a ∧ a < x) ∧ inB z = true := by
  unfold inB at *
  rw [List.all_cons, Bool.and_eq_true] at h
  exact ⟨by simpa using h.1, h.2⟩

theorem rem_split (p x S : Int) (hS : 1 ≤ S) (hx : 1 ≤ x) : p % (x * S) = (p / S) % x * S + p % S := by
  have e1 : S * (p / S) + p % S = p := Int.mul_ediv_add_emod p S
  have e2 : x * (p / S / x) + p / S % x = p / S := Int.mul_ediv_add_emod (p / S) x
  have b1 := Int.emod_nonneg p (show S ≠ 0 by omega)
  have b2 := Int.emod_lt_of_pos p (show 0 < S by omega)
  have b3 := Int.emod_nonneg (p / S) (show x ≠ 0 by omega)
  have b4 := Int.emod_lt_of_pos (p / S) (show 0 < x by omega)
  generalize p % S = r at *
  generalize p / S % x = d at *
  generalize p / S / x = q at *
  have e3 : p = (d * S + r) + q * (x * S) := by
    rw [← e1, ← e2, Int.mul_add, Int.add_right_comm, Int.mul_comm S d, Int.add_comm (S * (x * q))]
    have : S * (x * q) = q * (x * S) := by rw [Int.mul_comm S, Int.mul_comm x q, Int.mul_assoc]
    omega
  have m1 : d * S ≤ (x - 1) * S := Int.mul_le_mul (by omega) (Int.le_refl _) (by omega) (by omega)
  have m2 : 0 ≤ d * S := Int.mul_nonneg b3 (by omega)
  rw [Int.sub_mul] at m1
  rw [e3, Int.add_mul_emod_self_right, Int.emod_eq_of_lt (by omega) (by omega)]

theorem digs_num_acc (s : List Int) (h : allR 1 1024 s = true) (p : Int) : ∀ acc, (s.zip (digs s p)).foldl (fun p q => p * q.1 + q.2) acc = acc * prodI s + p % prodI s := by
  induction s with
  | nil => intro acc; simp [prodI, Int.emod_one]
  | cons x s ih =>
    intro acc
    obtain ⟨⟨x1, x2⟩, hs⟩ := allR_cons h
    have S1 := prodI_pos hs
    simp only [digs, List.zip_cons_cons, List.foldl_cons]
    rw [ih hs, prodI_cons, rem_split p x _ S1 x1, Int.add_mul, Int.mul_assoc, Int.add_assoc]
theorem digs_num {s : List Int} (h : allR 1 1024 s = true) {p : Int} (h0 : 0 ≤ p) (h1 : p < prodI s) : numP (s.zip (digs s p)) = p := by
  unfold numP
  rw [digs_num_acc s h p 0, Int.zero_mul, Int.zero_add, Int.emod_eq_of_lt h0 h1]
theorem digs_in (s : List Int) (h : allR 1 1024 s = true) (p : Int) : inB (s.zip (digs s p)) = true := by
  induction s with
  | nil => rfl
  | cons x s ih =>
    obtain ⟨⟨x1, x2⟩, hs⟩ := allR_cons h
    have := ih hs
    unfold inB at *
    simp only [digs, List.zip_cons_cons, List.all_cons, this, Bool.and_true, Bool.and_eq_true, decide_eq_true_eq]
    exact ⟨Int.emod_nonneg _ (by omega), Int.emod_lt_of_pos _ (by omega)⟩
theorem digs_ok {s : List Int} (h : allR 1 1024 s = true) (p : Int) : atOk s (digs s p) = true := atOk_yes (digs_length s p).symm (digs_in s h p)

theorem fold_acc (z : List (Int × Int)) : ∀ acc, z.foldl (fun p q => p * q.1 + q.2) acc = acc * prodI (z.map (·.1)) + z.foldl (fun p q => p * q.1 + q.2) 0 := by
  induction z with
  | nil => intro acc; simp [prodI]
  | cons q z ih =>
    intro acc
    simp only [List.foldl_cons, List.map_cons]
    rw [ih, ih (0 * q.1 + q.2), prodI_cons, Int.zero_mul, Int.zero_add, Int.add_mul, Int.mul_assoc, Int.add_assoc]
theorem map_zip_fst (s a : List Int) (h : s.length = a.length) : (s.zip a).map (·.1) = s := by
  induction s generalizing a with
  | nil => rfl
  | cons x s ih =>
    cases a with
    | nil => simp at h
    | cons y a => simp only [List.zip_cons_cons, List.map_cons]; rw [ih a (by simpa using h)]
theorem num_digs_acc (s : List Int) (h : allR 1 1024 s = true) : ∀ (a : List Int) (acc : Int), 0 ≤ acc → s.length = a.length → inB (s.zip a) = true → digs s ((s.zip a).foldl (fun p q => p * q.1 + q.2) acc) = a := by
  induction s with
  | nil => intro a acc _ hl _; cases a with
    | nil => rfl
    | cons y a => simp at hl
  | cons x s ih =>
    intro a acc h0 hl hb
    cases a with
    | nil => simp at hl
    | cons y a =>
      obtain ⟨⟨x1, x2⟩, hs⟩ := allR_cons h
      simp only [List.zip_cons_cons] at hb ⊢
      obtain ⟨⟨y1, y2⟩, hb'⟩ := inB_cons hb
      have hl' : s.length = a.length := by simpa using hl
      have S1 := prodI_pos hs
      have m2 : 0 ≤ acc * x := Int.mul_nonneg h0 (by omega)
      simp only [List.foldl_cons, digs]
      rw [ih hs a _ (by omega) hl' hb']
      congr 1
      obtain ⟨t1, t2⟩ := numP_take s a hl' hs s.length (Nat.le_refl _) (by rw [take_zip_full _ (Nat.le_refl _)]; exact hb')
      rw [take_zip_full _ (Nat.le_refl _), List.take_of_length_le (Nat.le_refl _)] at t2
      rw [take_zip_full _ (Nat.le_refl _)] at t1
      rw [fold_acc, map_zip_fst s a hl']
      unfold numP at t1 t2
      generalize (s.zip a).foldl (fun p q => p * q.1 + q.2) 0 = t at *
      rw [Int.add_comm, Int.add_mul_ediv_right _ _ (show prodI s ≠ 0 by omega), Int.ediv_eq_zero_of_lt t1 t2, Int.zero_add, Int.add_comm, Int.mul_comm, Int.add_mul_emod_self_left, Int.emod_eq_of_lt y1 y2]
theorem num_digs {s a : List Int} (h : allR 1 1024 s = true) (ha : atOk s a = true) : digs s (numP (s.zip a)) = a := by
  simp [atOk] at ha
  exact num_digs_acc s h a 0 (Int.le_refl _) ha.1 ha.2

/-- What At does in a round: an index, and the number that is left. -/
def atStep (st : Int × List Int) (x : Nat × Int) : Int × List Int := (st.1 / x.2, st.2.set x.1 (st.1 % x.2))
theorem drop_cons (s : List Int) (k : Nat) (h : k < s.length) : s.drop k = s.getD k 0 :: s.drop (k + 1) := by
  rw [List.drop_eq_getElem_cons h]; simp [List.getD, List.getElem?_eq_getElem h]
theorem set_mid (k : Nat) (D : List Int) (y : Int) : (List.replicate (k + 1) (0 : Int) ++ D).set k y = List.replicate k 0 ++ y :: D := by
  induction k with
  | zero => rfl
  | succ k ih =>
    rw [show List.replicate (k + 1 + 1) (0 : Int) = 0 :: List.replicate (k + 1) 0 from rfl, List.cons_append, List.set_cons_succ, ih]
    rfl
end Go.Proofs.Ytapelgjnnccfoaa

/-
  Plain mathematics of the order of places: all index lists in row-major order.
-/
namespace Go.Proofs.Ytapelgjnnccfoaa
set_option linter.unusedVariables false
set_option linter.unusedSimpArgs false

/-- One index list continued by each index of the last side below i. -/
def rowN (st : List Int) (i : Nat) : List (List Int) := (List.range i).map fun (j : Nat) => st ++ [(j : Int)]
theorem rowN_succ (st : List Int) (i : Nat) : rowN st (i + 1) = rowN st i ++ [st ++ [(i : Int)]] := by simp [rowN, List.range_succ]
theorem rowN_split (st : List Int) (i d : Nat) (h : i < d) : ∃ r, rowN st d = rowN st i ++ (st ++ [(i : Int)]) :: r := by
  induction d with
  | zero => omega
  | succ d ih =>
    by_cases e : i = d
    · subst e; exact ⟨[], rowN_succ st i⟩
    · obtain ⟨r, hr⟩ := ih (by omega)
      exact ⟨r ++ [st ++ [(d : Int)]], by rw [rowN_succ, hr]; simp⟩
def flatN (zs : List Int) (n : Nat) (l : List (List Int)) : List (List Int) := l.flatMap fun st => rowN st (zs.getD n 0).toNat
theorem flatN_append (zs : List Int) (n : Nat) (l m : List (List Int)) : flatN zs n (l ++ m) = flatN zs n l ++ flatN zs n m := by simp [flatN]
theorem flatN_one (zs : List Int) (n : Nat) (st : List Int) : flatN zs n [st] = rowN st (zs.getD n 0).toNat := by simp [flatN]
/-- All index lists of the first n sides. -/
def idxN (zs : List Int) : Nat → List (List Int)
  | 0 => [[]]
  | n + 1 => flatN zs n (idxN zs n)
theorem idxN_len (zs : List Int) : ∀ n, ∀ st ∈ idxN zs n, st.length = n := by
  intro n
  induction n with
  | zero => intro st h; simp [idxN] at h; simp [h]
  | succ n ih =>
    intro st h
    simp only [idxN, flatN, List.mem_flatMap, rowN, List.mem_map] at h
    obtain ⟨s, hs, j, _, rfl⟩ := h
    simp [ih s hs]
theorem idx_split {zs : List Int} {n : Nat} {pre rest : List (List Int)} {st : List Int} (h : idxN zs n = pre ++ st :: rest) (i : Nat) (hi : i < (zs.getD n 0).toNat) :
    ∃ r, idxN zs (n + 1) = (flatN zs n pre ++ rowN st i) ++ (st ++ [(i : Int)]) :: r := by
  obtain ⟨r, hr⟩ := rowN_split st i _ hi
  refine ⟨r ++ flatN zs n rest, ?_⟩
  show flatN zs n (idxN zs n) = _
  rw [h, flatN_append, show st :: rest = [st] ++ rest from rfl, flatN_append, flatN_one, hr]
  simp

theorem digs_snoc (s : List Int) (d : Int) (hs : allR 1 1024 s = true) (hd : 1 ≤ d) (p : Int) : digs (s ++ [d]) p = digs s (p / d) ++ [p % d] := by
  induction s with
  | nil => simp [digs, prodI]
  | cons x s ih =>
    obtain ⟨⟨x1, x2⟩, hs'⟩ := allR_cons hs
    have S1 := prodI_pos hs'
    simp only [List.cons_append, digs]
    rw [ih hs', prodI_append]
    congr 2
    rw [show prodI [d] = d by simp [prodI], Int.mul_comm, Int.ediv_ediv_of_nonneg (by omega)]
theorem range_mul (P d : Nat) {α : Type} (f : Nat → α) : (List.range (P * d)).map f = (List.range P).flatMap fun q => (List.range d).map fun i => f (q * d + i) := by
  induction P with
  | zero => simp
  | succ P ih =>
    rw [Nat.succ_mul, List.range_add, List.map_append, ih, List.range_succ, List.flatMap_append, List.map_map]
    simp [Function.comp_def]
theorem take_snoc (zs : List Int) (n : Nat) (h : n < zs.length) : zs.take (n + 1) = zs.take n ++ [zs.getD n 0] := by
  rw [List.take_add_one, List.getElem?_eq_getElem h]; simp [List.getD, List.getElem?_eq_getElem h]
theorem idxN_digs (zs : List Int) (hr : allR 1 1024 zs = true) : ∀ n, n ≤ zs.length → idxN zs n = (List.range (prodI (zs.take n)).toNat).map fun p : Nat => digs (zs.take n) (p : Int) := by
  intro n
  induction n with
  | zero => intro _; simp [idxN, prodI, digs]
  | succ n ih =>
    intro hn
    obtain ⟨x1, x2⟩ := allR_getD hr n (by omega)
    have S1 := prodI_pos (allR_take hr n)
    simp only [idxN, flatN]
    rw [ih (by omega), take_snoc zs n (by omega), prodI_append, show prodI [zs.getD n 0] = zs.getD n 0 by simp [prodI]]
    obtain ⟨P, hP⟩ : ∃ P : Nat, prodI (zs.take n) = P := ⟨(prodI (zs.take n)).toNat, by omega⟩
    obtain ⟨d, hd⟩ : ∃ d : Nat, zs.getD n 0 = d := ⟨(zs.getD n 0).toNat, by omega⟩
    rw [hP, hd, show ((P : Int) * (d : Int)).toNat = P * d by rw [← Int.natCast_mul, Int.toNat_natCast], range_mul]
    simp only [Int.toNat_natCast, List.flatMap_map, rowN]
    congr 1
    funext q
    apply List.map_congr_left
    intro i hi
    have hi' : i < d := List.mem_range.1 hi
    rw [digs_snoc _ _ (allR_take hr n) (by omega)]
    congr 1
    · congr 1
      rw [Int.natCast_add, Int.natCast_mul, Int.add_comm, Int.add_mul_ediv_right _ _ (by omega), Int.ediv_eq_zero_of_lt (by omega) (by omega)]
      omega
    · congr 1
      rw [Int.natCast_add, Int.natCast_mul, Int.add_comm, Int.add_mul_emod_self_right, Int.emod_eq_of_lt (by omega) (by omega)]
end Go.Proofs.Ytapelgjnnccfoaa

/-
  Package shape's iterator over the index lists: its maker, and slices.Clip.
-/
namespace Go.Proofs.Ytapelgjnnccfoaa
open Go.RowKit Go.Shelf
set_option linter.unusedVariables false
set_option linter.unusedSimpArgs false

set_option maxHeartbeats 400000 in
theorem clip_some (b off len cap : Nat) (w : World) (h : len ≤ cap) (hm : cap ≤ maxLen) :
    Calls Try.prog 72 #[.slice (some ⟨b, off, none⟩) len cap] w fun e w' => e = .returned (.slice (some ⟨b, off, none⟩) len len) ∧ w = w' := by
  unfold maxLen at hm
  go_enter Try.func72, Try.ntmps72
  go_wp2_with fail
  go_ret
  exact ⟨rfl, rfl⟩

set_option maxHeartbeats 400000 in
theorem clip_none (w : World) :
    Calls Try.prog 72 #[.slice none 0 0] w fun e w' => e = .returned (.slice none 0 0) ∧ w = w' := by
  go_enter Try.func72, Try.ntmps72
  go_wp2_with fail
  go_ret
  exact ⟨rfl, rfl⟩

set_option maxHeartbeats 400000 in
theorem indices_any (a : Option Addr) (len cap : Nat) (w : World) :
    Calls Try.prog 69 #[.slice a len cap] w fun e w' => e = .returned (.func (.func 71) #[] #[.pointer (some ⟨w.heap.size, 0, none⟩)]) ∧ w.alloc (.cells #[.slice a len cap] 23) = w' := by
  have hmf : ∀ (fn : Fn) (first cap : Array Value) (w : World), (Instr.makeFunc fn first cap).run Try.prog w = .ok (.func fn first cap) w := fun _ _ _ _ => rfl
  go_enter Try.func69, Try.ntmps69
  go_wp2_with fail
  go_ret
  exact ⟨rfl, rfl⟩

/-- What is handed over with an index list: a slice of these integers, in a block that nobody else writes in the meantime. -/
def IdxE (st : List Int) (y : Option Addr × Nat) (O : BSet) (W : World) : Prop :=
  IntsAt W y.1 st.length st ∧ st.length ≤ y.2 ∧ y.2 ≤ maxLen ∧ ((st = [] ∧ y = (none, 0)) ∨ ∃ b, y.1 = some ⟨b, 0, none⟩ ∧ O b)
def idxV (st : List Int) (y : Option Addr × Nat) : Array Value := #[.slice y.1 st.length y.2]

theorem IdxE.keep {st : List Int} {y : Option Addr × Nat} {O : BSet} {W : World} (D l : Nat) (o o' : Obj) (h : IdxE st y O W) (hl : W.heap[l]? = some o) (hc : o.isCells = false) : IdxE st y (fun k => O k ∨ k = D ∨ k = l) (W.putObj l o') := by
  obtain ⟨⟨h1, h2, h3, h4⟩, g1, g2, g3⟩ := h
  refine ⟨⟨h1, h2, h3, ?_⟩, g1, g2, ?_⟩
  · rcases h4 with h4 | ⟨b, off, ha, hcell⟩
    · exact .inl h4
    · refine .inr ⟨b, off, ha, fun j hj => ?_⟩
      exact cell_kept (hcell j hj) (grownBy_putObj' W l o') (fun r e => by cases e; exact ⟨o, hl, hc⟩)
  · rcases g3 with g3 | ⟨b, hb, hO⟩
    · exact .inl g3
    · exact .inr ⟨b, hb, .inl hO⟩
theorem IdxE.round {st : List Int} {y : Option Addr × Nat} {O M : BSet} {W W' : World} (h : IdxE st y O W) (hs : RdStep M W W') (hM : ∀ k, O k → M k) : IdxE st y O W' := by
  obtain ⟨⟨h1, h2, h3, h4⟩, g1, g2, g3⟩ := h
  refine ⟨⟨h1, h2, h3, ?_⟩, g1, g2, g3⟩
  rcases h4 with h4 | ⟨b, off, ha, hcell⟩
  · exact .inl h4
  · rcases g3 with ⟨rfl, rfl⟩ | ⟨b2, hb, hO⟩
    · exact .inl rfl
    · rw [ha] at hb
      cases hb
      exact .inr ⟨b, 0, ha, fun j hj => hs.cell (hcell j hj) (hM _ hO)⟩
theorem IdxE.mono {st : List Int} {y : Option Addr × Nat} {O O' : BSet} {W : World} (h : IdxE st y O W) (hs : ∀ k, O k → O' k) : IdxE st y O' W :=
  ⟨h.1, h.2.1, h.2.2.1, h.2.2.2.elim .inl (fun ⟨b, hb, hO⟩ => .inr ⟨b, hb, hs _ hO⟩)⟩
theorem BackC.it {Bx : Nat} {a : Option Addr} {n cap : Nat} {zs : List Int} {O O' : BSet} {W W' : World} (h : BackC Bx a n cap zs W) (hs : ItStep O W O' W') (hn : ∀ k, BackR Bx a k → ¬ O k) : BackC Bx a n cap zs W' := by
  obtain ⟨h1, g1, g2, g3, g4⟩ := h
  refine ⟨hs.cell h1 (hn _ (.inl rfl)), g1, g2, g3, ?_⟩
  rcases g4 with g4 | ⟨b, off, rfl, hc⟩
  · exact .inl g4
  · exact .inr ⟨b, off, rfl, fun j hj => hs.cell (hc j hj) (hn _ (.inr ⟨_, rfl, rfl⟩))⟩

attribute [local go_sem] Oper.semAt_some

set_option maxRecDepth 100000 in
set_option maxHeartbeats 2000000 in
/-- No sides: one place, without an index. -/
theorem idx_base (Bx : Nat) (a : Option Addr) (cap : Nat) (zs : List Int) :
    IterOf Try.prog 71 #[.pointer (some ⟨Bx, 0, none⟩)] (BackR Bx a) (BackC Bx a 0 cap []) (idxN zs 0) idxV IdxE := by
  intro l J Jx sJ sJx hY W hC h0
  have c1 := hC.1
  obtain ⟨W1, hW1⟩ : ∃ W1, W.alloc (.cells #[.func (.yield l) #[] #[]] 62) = W1 := ⟨_, rfl⟩
  have hb : Below W.heap.size W W1 := by rw [← hW1]; exact (Below.refl _ _).alloc (Nat.le_refl _) _
  have hc1 := cell_later hb c1
  have hy1 : W1.cell? ⟨W.heap.size, 0, none⟩ = some (.func (.yield l) #[] #[]) := by rw [← hW1, World.cell?_alloc_at _ _ _ _ rfl]; rfl
  have hJ := sJ [] _ _ _ _ h0 (ItStep.of_below hb)
  obtain ⟨fn, tmps, assign, body, hy, hR⟩ := yield_any 0 (hY [] [] (none, 0) [] (fun _ => False) W1 rfl hJ ⟨IntsAt.nil _ _, Nat.le_refl _, by unfold maxLen; omega, .inl ⟨rfl, rfl⟩⟩)
  dsimp only [idxV, List.length_nil] at hy
  subst hW1
  clear hJ hY hC hb
  refine (callsIn_wide (n := 0)).1 ?_
  refine callsIn_of_wp Try.func71 rfl trivial ?_ rfl
  simp only [Try.ntmps71, List.size_toArray, List.length_cons, List.length_nil, Nat.reduceAdd, Nat.reduceSub, Array.replicate_succ, Array.replicate_zero, List.push_toArray, List.append_toArray, List.nil_append, List.cons_append]
  gi_wp2_with fail
  refine ⟨rfl, hR.mono ?_⟩
  rintro e W3 ⟨hrd, (⟨rfl, hJ3⟩ | ⟨rfl, hJx3⟩)⟩
  · clear hrd
    gi_wp2
    refine bodyPost_ret (results_none rfl _ _ _) rfl ?_
    exact ⟨⟨_, rfl⟩, .inl ⟨_, hJ3⟩⟩
  · clear hrd
    gi_wp2
    refine bodyPost_ret (results_none rfl _ _ _) rfl ?_
    exact ⟨⟨_, rfl⟩, .inr ⟨_, _, hJx3⟩⟩
end Go.Proofs.Ytapelgjnnccfoaa

/-
  Package shape's iterator over the index lists: its contract, by the number of sides.
-/
namespace Go.Proofs.Ytapelgjnnccfoaa
open Go.RowKit Go.Shelf
attribute [local go_sem] Oper.semAt_some
set_option linter.unusedVariables false
set_option linter.unusedSimpArgs false

theorem idxN_take (zs : List Int) (m : Nat) : ∀ n, n ≤ m → idxN (zs.take m) n = idxN zs n := by
  intro n
  induction n with
  | zero => intro _; rfl
  | succ n ih =>
    intro h
    simp only [idxN]
    rw [ih (by omega)]
    unfold flatN
    congr 1
    funext st
    have : (zs.take m).getD n 0 = zs.getD n 0 := by simp [List.getD, List.getElem?_take, show n < m by omega]
    rw [this]

/-- Between two rounds over the shorter index lists. -/
def IdxI (J : List (List Int) → BSet → World → Prop) (zs : List Int) (n l Bx : Nat) (a : Option Addr) (cap B : Nat) (pre : List (List Int)) (O : BSet) (W : World) : Prop :=
  ∃ X : BSet, J (flatN zs n pre) (fun k => O k ∨ X k) W ∧ (∀ k, B ≤ k → k < B + 3 → X k) ∧ (∀ k, O k → B + 3 ≤ k) ∧ B + 3 ≤ W.heap.size ∧
    W.heap[B]? = some (.cells #[.func (.yield l) #[] #[]] 62 (0, 0)) ∧ W.heap[B + 1]? = some (.cells #[.int .i64 n] 3 (0, 0)) ∧ BackC Bx a (n + 1) cap zs W
/-- A round has said 'no more'. -/
def IdxX (Jx : List (List Int) → BSet → World → Prop) (c : Code) (_ : List (List Int)) (O : BSet) (W : World) : Prop := c = .ret ∧ ∃ (p : List (List Int)) (X : BSet), Jx p (fun k => O k ∨ X k) W

theorem wide_step {O O' X : BSet} {A B : World} (h : ItStep O A O' B) : ItStep (fun k => O k ∨ X k) A (fun k => O' k ∨ X k) B :=
  ⟨h.os, h.tape, h.output, h.size, fun k hk => hk.elim (fun h1 => .inl (h.sub k h1)) .inr, fun k hk => by
    rcases hk with h1 | h1
    · rcases h.new k h1 with h2 | h2
      · exact .inl (.inl h2)
      · exact .inr h2
    · exact .inl (.inr h1), fun k hk => by
    rcases hk with h1 | h1
    · rcases h.top k h1 with h2 | h2
      · exact .inl (.inl h2)
      · exact .inr h2
    · exact .inl (.inr h1), fun k hk hn => h.block k hk (fun h1 => hn (.inl h1))⟩

theorem IdxI.stable {J : List (List Int) → BSet → World → Prop} (sJ : ∀ p, Stable (J p)) (zs : List Int) (n l Bx : Nat) (a : Option Addr) (cap B : Nat) (hB : ∀ k, BackR Bx a k → k < B) (pre : List (List Int)) : Stable (IdxI J zs n l Bx a cap B pre) := by
  rintro O W O' W' ⟨X, h1, h2, h3, h4, h5, h6, h7⟩ hs
  refine ⟨X, sJ _ _ _ _ _ h1 (wide_step hs), h2, ?_, Nat.le_trans h4 hs.size, ?_, ?_, h7.it hs (fun k hk ho => by have := hB k hk; have := h3 k ho; omega)⟩
  · intro k hk
    rcases hs.new k hk with h | h
    · exact h3 k h
    · omega
  · exact (hs.block B (by omega) (fun h => by have := h3 B h; omega)).trans h5
  · exact (hs.block (B + 1) (by omega) (fun h => by have := h3 (B + 1) h; omega)).trans h6
theorem IdxX.stable {Jx : List (List Int) → BSet → World → Prop} (sJx : ∀ p, Stable (Jx p)) (c : Code) (p : List (List Int)) : Stable (IdxX Jx c p) := by
  rintro O W O' W' ⟨hc, q, X, h⟩ hs
  exact ⟨hc, q, X, sJx _ _ _ _ _ h (wide_step hs)⟩

/-- Within a round, when i indices of the last side have been handed over. -/
def IdxL (J : List (List Int) → BSet → World → Prop) (zs : List Int) (n l Bx : Nat) (a : Option Addr) (cap B : Nat) (pre : List (List Int)) (st : List Int) (y : Option Addr × Nat) (O : BSet) (W2 : World) (x : Int) (v : Value) (W : World) : Prop :=
  ∃ (i : Nat) (X : BSet), (i : Int) ≤ x ∧ v = .int .i64 i ∧ J (flatN zs n pre ++ rowN st i) (fun k => O k ∨ X k) W ∧ (∀ k, B ≤ k → k < B + 3 → X k) ∧ B + 3 ≤ W.heap.size ∧
    W.heap[B]? = some (.cells #[.func (.yield l) #[] #[]] 62 (0, 0)) ∧ W.heap[B + 1]? = some (.cells #[.int .i64 n] 3 (0, 0)) ∧ BackC Bx a (n + 1) cap zs W ∧
    IdxE st y O W ∧ RdStep (fun k => BackR (B + 2) a k ∨ O k) W2 W

/-- What yield tells. -/
def YP (J Jx : List (List Int) → BSet → World → Prop) (p : List (List Int)) (M O : BSet) (W : World) (r : Bool × World) : Prop :=
  RdStep M W r.2 ∧ (r.1 = true → J p O r.2) ∧ (r.1 = false → Jx p O r.2)

/-- One element more behind an index list, in new memory. -/
theorem append_idx (st : List Int) (y : Option Addr × Nat) (O : BSet) (w : World) (i : Int) (h : IdxE st y O w) (hl : st.length ≤ 100) (hi1 : -9223372036854775808 ≤ i) (hi2 : i ≤ 9223372036854775807) :
    ∃ g cap w', (Builtin.append_ #[22, 22] 22 #[.slice y.1 st.length st.length, .slice (some ⟨w.heap.size, 0, none⟩) 1 1]).run Try.prog (w.alloc (.cells #[.int .i64 i] 3)).drew = .ok (.slice (some ⟨g, 0, none⟩) (st.length + 1) cap) w' ∧
      w.heap.size ≤ g ∧ g < w'.heap.size ∧ IntsAt w' (some ⟨g, 0, none⟩) (st.length + 1) (st ++ [i]) ∧ st.length + 1 ≤ cap ∧ cap ≤ maxLen ∧ Below w.heap.size w w' := by
  obtain ⟨i0, hi, hz0, hz1, hz2⟩ := info_parts intInfo
  have b0 : Below w.heap.size w (w.alloc (.cells #[.int .i64 i] 3)).drew := ((Below.refl _ _).alloc (Nat.le_refl _) _).drew
  have hnew : ∀ j u, [Value.int .i64 i][j]? = some u → (w.alloc (.cells #[.int .i64 i] 3)).drew.cell? ((⟨w.heap.size, 0, none⟩ : Addr).add j) = some u := by
    intro j u hj
    match j, hj with
    | 0, hj =>
      simp at hj; subst hj
      show (w.alloc _).cell? _ = _
      rw [Addr.add_lit]
      rw [World.cell?_alloc_at _ _ _ _ rfl]; rfl
  have fin : ∀ v' w', w'.ownsRow (w.alloc (.cells #[.int .i64 i] 3)).drew.heap.size 3 1 v' (st.length + 1) (st.map (Value.int .i64) ++ [.int .i64 i]) → (w.alloc (.cells #[.int .i64 i] 3)).drew.grownBy w' none →
      ∃ g cap, v' = .slice (some ⟨g, 0, none⟩) (st.length + 1) cap ∧ w.heap.size ≤ g ∧ g < w'.heap.size ∧ IntsAt w' (some ⟨g, 0, none⟩) (st.length + 1) (st ++ [i]) ∧ st.length + 1 ≤ cap ∧ cap ≤ maxLen ∧ Below w.heap.size w w' := by
    intro v' w' ho hg
    have ho' : w'.ownsRow (w.alloc (.cells #[.int .i64 i] 3)).drew.heap.size 3 1 v' (st.length + 1) ((st ++ [i]).map (Value.int .i64)) := by simpa using ho
    rcases ho'.2 with ⟨-, h0⟩ | ⟨g, cap, cur, rfl, hbg, hh, hnc, hcm, hcs, htk⟩
    · omega
    · have hbg' : w.heap.size + 1 ≤ g := by
        have e : (w.alloc (.cells #[.int .i64 i] 3)).drew.heap.size = w.heap.size + 1 := World.size_alloc w _
        omega
      refine ⟨g, cap, rfl, by omega, (Array.getElem?_eq_some_iff.1 hh).1, row_ints ho' (by omega) ?_, hnc, hcm, b0.trans ?_⟩
      · intro q hq
        rcases List.mem_append.1 hq with h' | h'
        · exact h.1.2.2.1 q h'
        · simp at h'; omega
      · exact (Below.refl _ _).grown hg (show w.heap.size ≤ (w.alloc (.cells #[.int .i64 i] 3)).heap.size by simp) (fun k e => by cases e)
  obtain ⟨⟨h1, h2, h3, h4⟩, g1, g2, g3⟩ := h
  rcases g3 with ⟨rfl, rfl⟩ | ⟨b, hb, hO⟩
  · obtain ⟨v', w', hr, r1, r2, _⟩ := run_append_own (P := Try.prog) (w.alloc (.cells #[.int .i64 i] 3)).drew (w.alloc (.cells #[.int .i64 i] 3)).drew.heap.size 22 22 3 i0 (.int .i64 0) 1 8 Try.underlying22 hi hz0 hz1 hz2 rfl (by decide)
      (.slice none 0 0) 0 [] (World.ownsRow_nil _ _ _ 1) ⟨w.heap.size, 0, none⟩ 1 1 [.int .i64 i] rfl hnew (by intro u hu; simp at hu; subst hu; rfl) (by unfold maxLen; omega) (by omega) (Nat.le_refl _)
    obtain ⟨g, cap, rfl, q⟩ := fin v' w' (by simpa using r1) r2
    exact ⟨g, cap, w', hr, q⟩
  · obtain ⟨y1, y2⟩ := y
    simp only at hb h4
    subst hb
    have holds : ∀ j u, (st.map (Value.int .i64))[j]? = some u → (w.alloc (.cells #[.int .i64 i] 3)).drew.cell? ((⟨b, 0, none⟩ : Addr).add j) = some u := by
      intro j u hj
      have hjl := (List.getElem?_eq_some_iff.1 hj).1
      rw [List.length_map] at hjl
      rcases h4 with h4 | ⟨b2, off, ha, hc⟩
      · omega
      · cases ha
        rw [Addr.add_lit, cell_later b0 (hc j (by omega)), ← hj]
        simp [List.getD, List.getElem?_eq_getElem hjl]
    obtain ⟨v', w', hr, r1, r2⟩ := run_append_arg_grows (P := Try.prog) (w.alloc (.cells #[.int .i64 i] 3)).drew 22 22 3 i0 (.int .i64 0) 1 8 Try.underlying22 hi hz0 hz1 hz2 rfl (by decide)
      ⟨b, 0, none⟩ st.length st.length (st.map (Value.int .i64)) (by simp) holds ⟨w.heap.size, 0, none⟩ 1 1 [.int .i64 i] rfl hnew (by omega) (by unfold maxLen; omega) (by omega)
    obtain ⟨g, cap, rfl, q⟩ := fin v' w' r1 r2
    exact ⟨g, cap, w', hr, q⟩
end Go.Proofs.Ytapelgjnnccfoaa

/-
  Package shape's All: its maker, and the contract of its closure by that of the index lists' iterator.
-/
namespace Go.Proofs.Ytapelgjnnccfoaa
open Go.RowKit Go.Shelf
attribute [local go_sem] Oper.semAt_some
set_option linter.unusedVariables false
set_option linter.unusedSimpArgs false

/-- The items with their numbers. -/
def enumL {α : Type} : Nat → List α → List (Nat × α)
  | _, [] => []
  | k, x :: l => (k, x) :: enumL (k + 1) l
theorem enumL_append {α : Type} (l m : List α) : ∀ k, enumL k (l ++ m) = enumL k l ++ enumL (k + l.length) m := by
  induction l with
  | nil => intro k; simp [enumL]
  | cons x l ih => intro k; simp [enumL, ih]; congr 1; omega
theorem enumL_snoc {α : Type} (l : List α) (x : α) : enumL 0 (l ++ [x]) = enumL 0 l ++ [(l.length, x)] := by rw [enumL_append]; simp [enumL]
def allV (x : Nat × List Int) (y : Option Addr × Nat) : Array Value := #[.int .i64 x.1, .slice y.1 x.2.length y.2]
def AllE (x : Nat × List Int) (y : Option Addr × Nat) (O : BSet) (W : World) : Prop := IdxE x.2 y O W
def allL (zs : List Int) : List (Nat × List Int) := if rightS zs = true then enumL 0 (idxN zs zs.length) else []

set_option maxHeartbeats 400000 in
theorem all_any (a : Option Addr) (len cap : Nat) (w : World) :
    Calls Try.prog 59 #[.slice a len cap] w fun e w' => e = .returned (.func (.func 68) #[] #[.pointer (some ⟨w.heap.size, 0, none⟩)]) ∧ w.alloc (.cells #[.slice a len cap] 23) = w' := by
  have hmf : ∀ (fn : Fn) (first cap : Array Value) (w : World), (Instr.makeFunc fn first cap).run Try.prog w = .ok (.func fn first cap) w := fun _ _ _ _ => rfl
  go_enter Try.func59, Try.ntmps59
  go_wp2_with fail
  go_ret
  exact ⟨rfl, rfl⟩

set_option maxRecDepth 100000 in
set_option maxHeartbeats 2000000 in
/-- A shape that is not valid has no places. -/
theorem allS_wrong (R : BSet) (Bx : Nat) (a : Option Addr) (len cap : Nat) (zs : List Int) (hr : rightS zs = false) :
    IterOf Try.prog 68 #[.pointer (some ⟨Bx, 0, none⟩)] R (BackC Bx a len cap zs) (allL zs) allV AllE := by
  intro l J Jx sJ sJx hY W hC h0
  have hx : allL zs = [] := by unfold allL; rw [if_neg (by rw [hr]; simp)]
  rw [hx]
  have z1 : Below W.heap.size W (W.alloc (.cells #[.func (.yield l) #[] #[]] 102)) := (Below.refl _ _).alloc (Nat.le_refl _) _
  have k1 := cell_later z1 hC.1
  have RM := rightM_any a len cap zs _ (hC.2.kept z1)
  rw [hr] at RM
  have R1 := Lib.hid RM
  have fin := Lib.hid (fun w2 (hb : Below (W.alloc (.cells #[.func (.yield l) #[] #[]] 102)).heap.size (W.alloc (.cells #[.func (.yield l) #[] #[]] 102)) w2) => sJ [] _ _ _ _ h0 (ItStep.of_below (z1.trans (hb.mono z1.size))))
  clear RM hY hC h0 hx z1
  go_enter Try.func68, Try.ntmps68
  go_wp2_with fail
  refine R1.out.mono ?_
  rintro e w2 ⟨rfl, hb⟩
  have F := Lib.hid (fin.out w2 hb)
  clear hb
  go_wp2_with fail
  refine bodyPost_ret (results_none rfl _ _ _) rfl ?_
  exact ⟨⟨_, rfl⟩, .inl ⟨_, F.out⟩⟩

/-- Between two rounds of All. -/
def AllI (J : List (Nat × List Int) → BSet → World → Prop) (l B Pl N : Nat) (pre : List (List Int)) (O : BSet) (W : World) : Prop :=
  J (enumL 0 pre) (fun k => O k ∨ (B ≤ k ∧ k < N)) W ∧ (∀ k, O k → N ≤ k) ∧ N ≤ W.heap.size ∧ W.heap[B]? = some (.cells #[.func (.yield l) #[] #[]] 102 (0, 0)) ∧
    W.heap[Pl]? = some (.cells #[.int .i64 pre.length] 3 (0, 0))
def AllX (Jx : List (Nat × List Int) → BSet → World → Prop) (B N : Nat) (c : Code) (_ : List (List Int)) (O : BSet) (W : World) : Prop := c = .ret ∧ ∃ p : List (Nat × List Int), Jx p (fun k => O k ∨ (B ≤ k ∧ k < N)) W
theorem AllI.stable {J : List (Nat × List Int) → BSet → World → Prop} (sJ : ∀ p, Stable (J p)) (l B Pl N : Nat) (hB : B < N) (hP : Pl < N) (pre : List (List Int)) : Stable (AllI J l B Pl N pre) := by
  rintro O W O' W' ⟨h1, h3, h4, h5, h6⟩ hs
  refine ⟨sJ _ _ _ _ _ h1 (wide_step hs), ?_, Nat.le_trans h4 hs.size, ?_, ?_⟩
  · intro k hk
    rcases hs.new k hk with h | h
    · exact h3 k h
    · omega
  · exact (hs.block B (by omega) (fun h => by have := h3 B h; omega)).trans h5
  · exact (hs.block Pl (by omega) (fun h => by have := h3 Pl h; omega)).trans h6
theorem AllX.stable {Jx : List (Nat × List Int) → BSet → World → Prop} (sJx : ∀ p, Stable (Jx p)) (B N : Nat) (c : Code) (p : List (List Int)) : Stable (AllX Jx B N c p) := by
  rintro O W O' W' ⟨hc, q, h⟩ hs
  exact ⟨hc, q, sJx _ _ _ _ _ h (wide_step hs)⟩
end Go.Proofs.Ytapelgjnnccfoaa

/-
  A range over a function whose rounds may overwrite what they were handed: the iterator never reads it again.
-/
namespace Go.Proofs.Ytapelgjnnccfoaa
open Go.RowKit Go.Shelf
set_option linter.unusedVariables false
set_option linter.unusedSimpArgs false

/-- The contract of an iterator's value, where a round may change the blocks Fr of what it is handed. -/
def IterOfF (P : Program) (gf : FuncId) (lb : Array Value) (R : BSet) (C : World → Prop) {α β : Type} (xs : List α) (encs : α → β → Array Value) (Enc : α → β → BSet → World → Prop) (Fr : α → β → BSet) : Prop :=
  ∀ (l : Nat) (J Jx : List α → BSet → World → Prop), (∀ p, Stable (J p)) → (∀ p, Stable (Jx p)) →
    (∀ pre x y rest O W, xs = pre ++ x :: rest → J pre O W → Enc x y O W →
      YieldAt Fence.wide 0 P l (encs x y) W fun e W' => RdStep (fun k => R k ∨ (O k ∧ ¬ Fr x y k)) W W' ∧ ((e = .returned (.bool true) ∧ J (pre ++ [x]) O W') ∨ (e = .returned (.bool false) ∧ Jx (pre ++ [x]) O W'))) →
    ∀ W, C W → J [] (fun _ => False) W →
    Calls P gf (#[.func (.yield l) #[] #[]] ++ lb) W fun e W' => (∃ v, e = .returned v) ∧ ((∃ O, J xs O W') ∨ (∃ pre O, Jx pre O W'))
theorem YieldAt.post {F : Fence} {m : Nat} {P : Program} {l : Nat} {args : Array Value} {W : World} {R R' : Ending → World → Prop} (h : YieldAt F m P l args W R) (hm : ∀ e W', R e W' → R' e W') : YieldAt F m P l args W R' := by
  obtain ⟨fn, tmps, assign, body, hy, hr⟩ := h
  exact ⟨fn, tmps, assign, body, hy, RoundIn.mono hr hm⟩
/-- Rounds that leave more alone are served too. -/
theorem IterOfF.iter {P : Program} {gf : FuncId} {lb : Array Value} {R : BSet} {C : World → Prop} {α β : Type} {xs : List α} {encs : α → β → Array Value} {Enc : α → β → BSet → World → Prop} {Fr : α → β → BSet} (h : IterOfF P gf lb R C xs encs Enc Fr) : IterOf P gf lb R C xs encs Enc := by
  intro l J Jx sJ sJx hY
  refine h l J Jx sJ sJx (fun pre x y rest O W hxs hj he => YieldAt.post (hY pre x y rest O W hxs hj he) ?_)
  rintro e W' ⟨h1, h2⟩
  exact ⟨h1.mono (fun k hk => hk.elim .inl (fun q => .inr q.1)), h2⟩
theorem RdStep.trans_new {M : BSet} {A B C : World} {g : Nat} (h : RdStep M A B) (k : RdStep (fun j => M j ∧ j ≠ g) B C) (hg : A.heap.size ≤ g) : RdStep M A C :=
  ⟨k.os.trans h.os, k.tape.trans h.tape, k.output.trans h.output, Nat.le_trans h.size k.size, fun j hlt hj => (k.block j (Nat.lt_of_lt_of_le hlt h.size) ⟨hj, by omega⟩).trans (h.block j hlt hj)⟩

/-- The statement 'for .. := range g { .. }' by the iterator's contract. -/
theorem range_lawF {P : Program} {n : Nat} {g : Operand} {ps : Array Tmp} {assign body : Code} {Q : Exit → Act → World → Prop} {a : Act} {w : World} {gf : FuncId} {lb : Array Value} {R : BSet} {C : World → Prop}
    {α β : Type} {xs : List α} {encs : α → β → Array Value} {Enc : α → β → BSet → World → Prop} {Fr : α → β → BSet}
    (hg : a.eval g = .func (.func gf) #[] lb) (eg : ∀ args w, (callFunc gf args).run P w = .ok (.enter gf args) w)
    (hseq : IterOfF P gf lb R C xs encs Enc Fr) (hF : ∀ x y O W k, Enc x y O W → Fr x y k → O k) (hps : ∀ x y, (encs x y).size = ps.size) (hR : ∀ k, R k → k < w.heap.size)
    (hkeep : ∀ x y O W D l o o', Enc x y O W → W.heap[l]? = some o → o.isCells = false → Enc x y (fun k => O k ∨ k = D ∨ k = l) (W.putObj l o'))
    (hC : ∀ W', Below w.heap.size w W' → C W')
    (I : List α → BSet → World → Prop) (Ix : Code → List α → BSet → World → Prop) (sI : ∀ p, Stable (I p)) (sIx : ∀ c p, Stable (Ix c p)) (h0 : I [] (fun _ => False) w)
    (hround : ∀ (l : Nat) (pre : List α) (x : α) (y : β) (rest : List α) (O : BSet) (W W2 : World), xs = pre ++ x :: rest → I pre O W2 → Enc x y O W2 →
      assign.wpIn (Fence.wide.inRound l) 0 P (Exit.then (fun a' W' => W' = W ∧ body.wpIn (Fence.wide.inRound l) 0 P (rdPost (fun k => R k ∨ (O k ∧ ¬ Fr x y k)) O I Ix (pre ++ [x]) W2) a' W2) (fun _ _ _ => False))
        { tmps := (ps.zip (encs x y)).foldl (fun t (p, v) => t.setIfInBounds p v) a.tmps, defers := [] } W)
    (hdone : ∀ (D : Nat) (O : BSet) (W : World), w.heap.size ≤ D → O D → W.heap[D]? = some (.deferred (some [])) → I xs O W → Q .normal { a with defers := { target := .collected D, args := #[] } :: a.defers } W)
    (hstop : ∀ (D : Nat) (O : BSet) (c : Code) (pre : List α) (W : World), w.heap.size ≤ D → O D → W.heap[D]? = some (.deferred (some [])) → Ix c pre O W → c.wpIn Fence.wide n P Q { a with defers := { target := .collected D, args := #[] } :: a.defers } W) :
    (Code.rangeFunc g ps assign body).wpIn Fence.wide n P Q a w := by
  refine wpIn_rangeFunc ?_
  intro fn hfn
  obtain ⟨rec, hrec⟩ : ∃ rec : LoopState → Option Code → Loop, rec = fun st pe => { state := st, pending := pe, fn, tmps := a.tmps, params := ps, assign, body, defers := w.heap.size } := ⟨_, rfl⟩
  obtain ⟨W1, hW1⟩ : ∃ W1, (w.alloc (.deferred (some []))).alloc (.loop (rec .ready none)) = W1 := ⟨_, rfl⟩
  obtain ⟨D, hD⟩ : ∃ D, w.heap.size = D := ⟨_, rfl⟩
  obtain ⟨l, hl⟩ : ∃ l, D + 1 = l := ⟨_, rfl⟩
  have hb1 : Below w.heap.size w W1 := by rw [← hW1]; exact ((Below.refl _ w).alloc (Nat.le_refl _) _).alloc (by simp) _
  have hL1 : W1.heap[l]? = some (.loop (rec .ready none)) := by
    rw [← hW1, ← hl, ← hD]
    have := World.alloc_heap_new (w.alloc (.deferred (some []))) (.loop (rec .ready none))
    rwa [World.size_alloc] at this
  have hK1 : W1.heap[D]? = some (.deferred (some [])) := by rw [← hW1, ← hD]; exact (Below.heap_alloc _ _ _ (by simp)).trans (World.alloc_heap_new w _)
  -- the caller's set: the iterator's blocks and the two of the loop itself
  have hI1 : I [] (fun k => False ∨ k = D ∨ k = l) W1 :=
    sI [] _ w _ W1 h0 ⟨hb1.os, hb1.tape, hb1.output, hb1.size, fun _ h => .inl h, fun k hk => by rcases hk with h | h | h; exact h.elim; exact .inr (by omega); exact .inr (by omega),
      fun k hk => by rcases hk with h | h | h; exact h.elim; all_goals exact .inr (by rw [← hW1, h]; simp; omega), fun k hk _ => hb1.block k hk⟩
  have wide : ∀ {O O' : BSet} {A B : World}, ItStep O A O' B → ItStep (fun k => O k ∨ k = D ∨ k = l) A (fun k => O' k ∨ k = D ∨ k = l) B := fun {O O' A B} h =>
    ⟨h.os, h.tape, h.output, h.size, fun k hk => hk.elim (fun h1 => .inl (h.sub k h1)) .inr, fun k hk => by
      rcases hk with h1 | h1
      · rcases h.new k h1 with h2 | h2
        · exact .inl (.inl h2)
        · exact .inr h2
      · exact .inl (.inr h1), fun k hk => by
      rcases hk with h1 | h1
      · rcases h.top k h1 with h2 | h2
        · exact .inl (.inl h2)
        · exact .inr h2
      · exact .inl (.inr h1), fun k hk hn => h.block k hk (fun h1 => hn (.inl h1))⟩
  have kept : ∀ {O O' : BSet} {A B : World} {k : Nat} {o : Obj}, ItStep O A O' B → ¬ O k → A.heap[k]? = some o → (¬ O' k ∧ B.heap[k]? = some o) := fun {O O' A B k o} h hn hk =>
    ⟨not_own h (Array.getElem?_eq_some_iff.1 hk).1 hn, (h.block k (Array.getElem?_eq_some_iff.1 hk).1 hn).trans hk⟩
  refine ⟨l, [{ target := .collected D, args := #[] }], W1, { target := .fn (.func gf) lb, args := #[.func (.yield l) #[] #[]] }, W1, gf, #[.func (.yield l) #[] #[]] ++ lb, W1, ?_, ?_, fun _ _ => trivial, ?_, fun h => (by simp [Fence.wide] at h), ?_⟩
  · rw [← hW1, hrec, ← hl, ← hD]; exact run_enterLoop_outer _ _ _ _ _
  · simp only [resolve, hg]
    simp [go_sem]
  · simp [invoke, go_sem, eg]
  · refine callsIn_wide.2 ((hseq l
      (fun pre O W => I pre (fun k => O k ∨ k = D ∨ k = l) W ∧ W.heap[l]? = some (.loop (rec .ready none)) ∧ W.heap[D]? = some (.deferred (some [])) ∧ ¬ O l ∧ ¬ O D)
      (fun pre O W => ∃ c, Ix c pre (fun k => O k ∨ k = D ∨ k = l) W ∧ W.heap[l]? = some (.loop (rec .done (some c))) ∧ W.heap[D]? = some (.deferred (some [])) ∧ ¬ O l ∧ ¬ O D)
      (fun p O A O' B ⟨h1, h2, h3, h4, h5⟩ hs => ⟨sI p _ _ _ _ h1 (wide hs), (kept hs h4 h2).2, (kept hs h5 h3).2, (kept hs h4 h2).1, (kept hs h5 h3).1⟩)
      (fun p O A O' B ⟨c, h1, h2, h3, h4, h5⟩ hs => ⟨c, sIx c p _ _ _ _ h1 (wide hs), (kept hs h4 h2).2, (kept hs h5 h3).2, (kept hs h4 h2).1, (kept hs h5 h3).1⟩)
      ?_ W1 (hC W1 hb1) ⟨hI1, hL1, hK1, fun h => h, fun h => h⟩).mono ?_)
    · -- one round
      rintro pre x y rest O W hxs ⟨hi, hrl, hrD, hnl, hnD⟩ he
      have hne : D ≠ l := by omega
      have hlt : l < W.heap.size := (Array.getElem?_eq_some_iff.1 hrl).1
      have hy := run_yield (P := P) (args := encs x y) hrl (by rw [hrec]; exact hps x y)
      rw [hrec] at hy
      refine ⟨fn, _, assign, body, hy, roundIn_of_wpIn hfn ?_⟩
      have hRl : ¬ R l := fun h => by have := hR l h; omega
      have hRD : ¬ R D := fun h => by have := hR D h; omega
      have hl2 : (W.putObj l (.loop { rec .ready none with state := .busy })).heap[l]? = some (.loop { rec .ready none with state := .busy }) := World.putObj_heap_same hlt
      have hk2 : (W.putObj l (.loop { rec .ready none with state := .busy })).heap[D]? = some (.deferred (some [])) := (World.putObj_heap_other hne).trans hrD
      have st2 : ItStep (fun k => O k ∨ k = D ∨ k = l) W (fun k => O k ∨ k = D ∨ k = l) (W.putObj l (.loop { rec .ready none with state := .busy })) := ItStep.putObj W l _ (.inr (.inr rfl))
      refine wpIn_mono (hround l pre x y rest _ W _ hxs (sI _ _ _ _ _ hi st2) (hkeep x y O W D l _ _ he hrl rfl)) ?_
      intro ea aa Wa hea
      cases ea with
      | normal => ?_
      | ret => exact hea
      | exit id => exact hea
      | goto t => exact hea
      | panic ch => exact hea
      | outgrown => exact hea
      obtain ⟨hWa, hbd⟩ := hea
      rw [hWa]
      refine ⟨_, run_beginRound hrl (by rw [hrec]), ?_⟩
      refine wpIn_mono hbd ?_
      have hfl : ¬ Fr x y l := fun h => hnl (hF x y O W l he h)
      have hfD : ¬ Fr x y D := fun h => hnD (hF x y O W D he h)
      have rd2 : RdStep (fun k => R k ∨ (O k ∧ ¬ Fr x y k)) W (W.putObj l (.loop { rec .ready none with state := .busy })) := RdStep.putObj W l _ (fun h => h.elim hRl (fun h => hnl h.1))
      have fin : ∀ (jump : Option Code) (W3 : World), RdStep (fun k => R k ∨ ((O k ∨ k = D ∨ k = l) ∧ ¬ Fr x y k)) (W.putObj l (.loop { rec .ready none with state := .busy })) W3 →
          (Instr.endRound l jump).run P W3 = .ok (.bool jump.isNone) (W3.putObj l (.loop (rec (if jump.isNone then .ready else .done) jump))) ∧
          (W3.putObj l (.loop (rec (if jump.isNone then .ready else .done) jump))).heap[l]? = some (.loop (rec (if jump.isNone then .ready else .done) jump)) ∧
          (W3.putObj l (.loop (rec (if jump.isNone then .ready else .done) jump))).heap[D]? = some (.deferred (some [])) ∧
          ItStep (fun k => O k ∨ k = D ∨ k = l) W3 (fun k => O k ∨ k = D ∨ k = l) (W3.putObj l (.loop (rec (if jump.isNone then .ready else .done) jump))) ∧
          RdStep (fun k => R k ∨ (O k ∧ ¬ Fr x y k)) W (W3.putObj l (.loop (rec (if jump.isNone then .ready else .done) jump))) := fun jump W3 hk3 => by
        have hl3 : W3.heap[l]? = _ := (hk3.block l (Array.getElem?_eq_some_iff.1 hl2).1 (.inr ⟨.inr (.inr rfl), hfl⟩)).trans hl2
        have hD3 : W3.heap[D]? = _ := (hk3.block D (Array.getElem?_eq_some_iff.1 hk2).1 (.inr ⟨.inr (.inl rfl), hfD⟩)).trans hk2
        have hr := run_endRound (P := P) jump hl3
        rw [hrec] at hr ⊢
        refine ⟨hr, World.putObj_heap_same (Array.getElem?_eq_some_iff.1 hl3).1, (World.putObj_heap_other hne).trans hD3, ItStep.putObj W3 l _ (.inr (.inr rfl)), ?_⟩
        rw [hrec] at rd2 hk3
        exact (rd2.trans (hk3.mono (fun k hk => hk.elim .inl (fun h => .inr ⟨.inl h.1, h.2⟩)))).trans (RdStep.putObj W3 l _ (fun h => h.elim hRl (fun h => hnl h.1)))
      rintro e a3 W3 hp
      cases e with
      | normal =>
        obtain ⟨hk3, hi3⟩ := hp
        obtain ⟨hr, hl4, hk4, st, rd⟩ := fin none W3 hk3
        exact ⟨_, _, hr, rd, .inl ⟨rfl, sI _ _ _ _ _ hi3 st, hl4, hk4, hnl, hnD⟩⟩
      | ret =>
        obtain ⟨hk3, hi3⟩ := hp
        obtain ⟨hr, hl4, hk4, st, rd⟩ := fin (some .ret) W3 hk3
        exact ⟨_, _, hr, rd, .inr ⟨rfl, .ret, sIx _ _ _ _ _ _ hi3 st, hl4, hk4, hnl, hnD⟩⟩
      | exit id =>
        obtain ⟨hk3, hi3⟩ := hp
        obtain ⟨hr, hl4, hk4, st, rd⟩ := fin (some (.exit id)) W3 hk3
        exact ⟨_, _, hr, rd, .inr ⟨rfl, .exit id, sIx _ _ _ _ _ _ hi3 st, hl4, hk4, hnl, hnD⟩⟩
      | goto t =>
        obtain ⟨hk3, hi3⟩ := hp
        obtain ⟨hr, hl4, hk4, st, rd⟩ := fin (some (.goto t)) W3 hk3
        exact ⟨_, _, hr, rd, .inr ⟨rfl, .goto t, sIx _ _ _ _ _ _ hi3 st, hl4, hk4, hnl, hnD⟩⟩
      | panic ch => exact hp.elim
      | outgrown => exact hp.elim
    · -- behind the iterator
      have hne : D ≠ l := by omega
      rintro e W2 ⟨⟨v, rfl⟩, (⟨O, hi, hl2, hk, hnl, hnD⟩ | ⟨pre, O, c, hi, hl2, hk, hnl, hnD⟩)⟩
      · exact ⟨none, _, by have := run_endLoop (P := P) hl2 (by rw [hrec]; simp); rw [hrec] at this; exact this,
          hdone D _ _ (by omega) (.inr (.inl rfl)) ((World.putObj_heap_other hne).trans hk) (sI _ _ _ _ _ hi (ItStep.putObj W2 l _ (.inr (.inr rfl))))⟩
      · exact ⟨some c, _, by have := run_endLoop (P := P) hl2 (by rw [hrec]; simp); rw [hrec] at this; exact this,
          hstop D _ c pre _ (by omega) (.inr (.inl rfl)) ((World.putObj_heap_other hne).trans hk) (sIx _ _ _ _ _ _ hi (ItStep.putObj W2 l _ (.inr (.inr rfl))))⟩
end Go.Proofs.Ytapelgjnnccfoaa

/-
  Package shape's iterator over the index lists: what it hands over may be overwritten.
-/
namespace Go.Proofs.Ytapelgjnnccfoaa
open Go.RowKit Go.Shelf
attribute [local go_sem] Oper.semAt_some
set_option linter.unusedVariables false
set_option linter.unusedSimpArgs false

/-- The block of an index list that is handed over. -/
def FreeI (_ : List Int) (y : Option Addr × Nat) : BSet := fun k => ∃ ad, y.1 = some ad ∧ k = ad.block
theorem IdxE.free {st : List Int} {y : Option Addr × Nat} {O : BSet} {W : World} {k : Nat} (h : IdxE st y O W) (hf : FreeI st y k) : O k := by
  obtain ⟨ad, had, rfl⟩ := hf
  rcases h.2.2.2 with ⟨-, rfl⟩ | ⟨b, hb, hO⟩
  · cases had
  · rw [hb] at had; cases had; exact hO
/-- The same, and it lies in a block of its own that may be written. -/
def IdxG (st : List Int) (y : Option Addr × Nat) (O : BSet) (W : World) : Prop := IdxE st y O W ∧ ∀ ad, y.1 = some ad → ∃ cur, W.heap[ad.block]? = some (.cells cur 3 (0, 0))
theorem IdxG.free {st : List Int} {y : Option Addr × Nat} {O : BSet} {W : World} {k : Nat} (h : IdxG st y O W) (hf : FreeI st y k) : O k := h.1.free hf
theorem IdxG.mono {st : List Int} {y : Option Addr × Nat} {O O' : BSet} {W : World} (h : IdxG st y O W) (hs : ∀ k, O k → O' k) : IdxG st y O' W := ⟨h.1.mono hs, h.2⟩
theorem IdxG.keep {st : List Int} {y : Option Addr × Nat} {O : BSet} {W : World} (D l : Nat) (o o' : Obj) (h : IdxG st y O W) (hl : W.heap[l]? = some o) (hc : o.isCells = false) : IdxG st y (fun k => O k ∨ k = D ∨ k = l) (W.putObj l o') := by
  refine ⟨h.1.keep D l o o' hl hc, fun ad had => ?_⟩
  obtain ⟨cur, hcur⟩ := h.2 ad had
  refine ⟨cur, (World.putObj_heap_other (fun e => ?_)).trans hcur⟩
  rw [← e, hcur] at hl
  cases hl
  cases hc
theorem FreeI.one {st : List Int} {g cap k : Nat} : FreeI st (some ⟨g, 0, none⟩, cap) k ↔ k = g := by
  constructor
  · rintro ⟨ad, had, rfl⟩; cases had; rfl
  · rintro rfl; exact ⟨_, rfl, rfl⟩

/-- One element more behind an index list, in new memory. -/
theorem append_idxF (st : List Int) (y : Option Addr × Nat) (O : BSet) (w : World) (i : Int) (h : IdxE st y O w) (hl : st.length ≤ 100) (hi1 : -9223372036854775808 ≤ i) (hi2 : i ≤ 9223372036854775807) :
    ∃ g cap w', (Builtin.append_ #[22, 22] 22 #[.slice y.1 st.length st.length, .slice (some ⟨w.heap.size, 0, none⟩) 1 1]).run Try.prog (w.alloc (.cells #[.int .i64 i] 3)).drew = .ok (.slice (some ⟨g, 0, none⟩) (st.length + 1) cap) w' ∧
      w.heap.size ≤ g ∧ g < w'.heap.size ∧ IntsAt w' (some ⟨g, 0, none⟩) (st.length + 1) (st ++ [i]) ∧ st.length + 1 ≤ cap ∧ cap ≤ maxLen ∧ Below w.heap.size w w' ∧ ∃ cur, w'.heap[g]? = some (.cells cur 3 (0, 0)) := by
  obtain ⟨i0, hi, hz0, hz1, hz2⟩ := info_parts intInfo
  have b0 : Below w.heap.size w (w.alloc (.cells #[.int .i64 i] 3)).drew := ((Below.refl _ _).alloc (Nat.le_refl _) _).drew
  have hnew : ∀ j u, [Value.int .i64 i][j]? = some u → (w.alloc (.cells #[.int .i64 i] 3)).drew.cell? ((⟨w.heap.size, 0, none⟩ : Addr).add j) = some u := by
    intro j u hj
    match j, hj with
    | 0, hj =>
      simp at hj; subst hj
      show (w.alloc _).cell? _ = _
      rw [Addr.add_lit]
      rw [World.cell?_alloc_at _ _ _ _ rfl]; rfl
  have fin : ∀ v' w', w'.ownsRow (w.alloc (.cells #[.int .i64 i] 3)).drew.heap.size 3 1 v' (st.length + 1) (st.map (Value.int .i64) ++ [.int .i64 i]) → (w.alloc (.cells #[.int .i64 i] 3)).drew.grownBy w' none →
      ∃ g cap, v' = .slice (some ⟨g, 0, none⟩) (st.length + 1) cap ∧ w.heap.size ≤ g ∧ g < w'.heap.size ∧ IntsAt w' (some ⟨g, 0, none⟩) (st.length + 1) (st ++ [i]) ∧ st.length + 1 ≤ cap ∧ cap ≤ maxLen ∧ Below w.heap.size w w' ∧ ∃ cur, w'.heap[g]? = some (.cells cur 3 (0, 0)) := by
    intro v' w' ho hg
    have ho' : w'.ownsRow (w.alloc (.cells #[.int .i64 i] 3)).drew.heap.size 3 1 v' (st.length + 1) ((st ++ [i]).map (Value.int .i64)) := by simpa using ho
    rcases ho'.2 with ⟨-, h0⟩ | ⟨g, cap, cur, rfl, hbg, hh, hnc, hcm, hcs, htk⟩
    · omega
    · have hbg' : w.heap.size + 1 ≤ g := by
        have e : (w.alloc (.cells #[.int .i64 i] 3)).drew.heap.size = w.heap.size + 1 := World.size_alloc w _
        omega
      refine ⟨g, cap, rfl, by omega, (Array.getElem?_eq_some_iff.1 hh).1, row_ints ho' (by omega) ?_, hnc, hcm, b0.trans ?_, _, hh⟩
      · intro q hq
        rcases List.mem_append.1 hq with h' | h'
        · exact h.1.2.2.1 q h'
        · simp at h'; omega
      · exact (Below.refl _ _).grown hg (show w.heap.size ≤ (w.alloc (.cells #[.int .i64 i] 3)).heap.size by simp) (fun k e => by cases e)
  obtain ⟨⟨h1, h2, h3, h4⟩, g1, g2, g3⟩ := h
  rcases g3 with ⟨rfl, rfl⟩ | ⟨b, hb, hO⟩
  · obtain ⟨v', w', hr, r1, r2, _⟩ := run_append_own (P := Try.prog) (w.alloc (.cells #[.int .i64 i] 3)).drew (w.alloc (.cells #[.int .i64 i] 3)).drew.heap.size 22 22 3 i0 (.int .i64 0) 1 8 Try.underlying22 hi hz0 hz1 hz2 rfl (by decide)
      (.slice none 0 0) 0 [] (World.ownsRow_nil _ _ _ 1) ⟨w.heap.size, 0, none⟩ 1 1 [.int .i64 i] rfl hnew (by intro u hu; simp at hu; subst hu; rfl) (by unfold maxLen; omega) (by omega) (Nat.le_refl _)
    obtain ⟨g, cap, rfl, q⟩ := fin v' w' (by simpa using r1) r2
    exact ⟨g, cap, w', hr, q⟩
  · obtain ⟨y1, y2⟩ := y
    simp only at hb h4
    subst hb
    have holds : ∀ j u, (st.map (Value.int .i64))[j]? = some u → (w.alloc (.cells #[.int .i64 i] 3)).drew.cell? ((⟨b, 0, none⟩ : Addr).add j) = some u := by
      intro j u hj
      have hjl := (List.getElem?_eq_some_iff.1 hj).1
      rw [List.length_map] at hjl
      rcases h4 with h4 | ⟨b2, off, ha, hc⟩
      · omega
      · cases ha
        rw [Addr.add_lit, cell_later b0 (hc j (by omega)), ← hj]
        simp [List.getD, List.getElem?_eq_getElem hjl]
    obtain ⟨v', w', hr, r1, r2⟩ := run_append_arg_grows (P := Try.prog) (w.alloc (.cells #[.int .i64 i] 3)).drew 22 22 3 i0 (.int .i64 0) 1 8 Try.underlying22 hi hz0 hz1 hz2 rfl (by decide)
      ⟨b, 0, none⟩ st.length st.length (st.map (Value.int .i64)) (by simp) holds ⟨w.heap.size, 0, none⟩ 1 1 [.int .i64 i] rfl hnew (by omega) (by unfold maxLen; omega) (by omega)
    obtain ⟨g, cap, rfl, q⟩ := fin v' w' r1 r2
    exact ⟨g, cap, w', hr, q⟩
set_option maxRecDepth 100000 in
set_option maxHeartbeats 2000000 in
/-- No sides: one place, without an index. -/
theorem idx_baseF (Bx : Nat) (a : Option Addr) (cap : Nat) (zs : List Int) :
    IterOfF Try.prog 71 #[.pointer (some ⟨Bx, 0, none⟩)] (BackR Bx a) (BackC Bx a 0 cap []) (idxN zs 0) idxV IdxG FreeI := by
  intro l J Jx sJ sJx hY W hC h0
  have c1 := hC.1
  obtain ⟨W1, hW1⟩ : ∃ W1, W.alloc (.cells #[.func (.yield l) #[] #[]] 62) = W1 := ⟨_, rfl⟩
  have hb : Below W.heap.size W W1 := by rw [← hW1]; exact (Below.refl _ _).alloc (Nat.le_refl _) _
  have hc1 := cell_later hb c1
  have hy1 : W1.cell? ⟨W.heap.size, 0, none⟩ = some (.func (.yield l) #[] #[]) := by rw [← hW1, World.cell?_alloc_at _ _ _ _ rfl]; rfl
  have hJ := sJ [] _ _ _ _ h0 (ItStep.of_below hb)
  obtain ⟨fn, tmps, assign, body, hy, hR⟩ := yield_any 0 (hY [] [] (none, 0) [] (fun _ => False) W1 rfl hJ ⟨⟨IntsAt.nil _ _, Nat.le_refl _, by unfold maxLen; omega, .inl ⟨rfl, rfl⟩⟩, fun ad h => by cases h⟩)
  dsimp only [idxV, List.length_nil] at hy
  subst hW1
  clear hJ hY hC hb
  refine (callsIn_wide (n := 0)).1 ?_
  refine callsIn_of_wp Try.func71 rfl trivial ?_ rfl
  simp only [Try.ntmps71, List.size_toArray, List.length_cons, List.length_nil, Nat.reduceAdd, Nat.reduceSub, Array.replicate_succ, Array.replicate_zero, List.push_toArray, List.append_toArray, List.nil_append, List.cons_append]
  gi_wp2_with fail
  refine ⟨rfl, hR.mono ?_⟩
  rintro e W3 ⟨hrd, (⟨rfl, hJ3⟩ | ⟨rfl, hJx3⟩)⟩
  · clear hrd
    gi_wp2
    refine bodyPost_ret (results_none rfl _ _ _) rfl ?_
    exact ⟨⟨_, rfl⟩, .inl ⟨_, hJ3⟩⟩
  · clear hrd
    gi_wp2
    refine bodyPost_ret (results_none rfl _ _ _) rfl ?_
    exact ⟨⟨_, rfl⟩, .inr ⟨_, _, hJx3⟩⟩
end Go.Proofs.Ytapelgjnnccfoaa

