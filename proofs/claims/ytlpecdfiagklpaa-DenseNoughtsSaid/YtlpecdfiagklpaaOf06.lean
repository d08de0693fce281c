/-
  The statements' words of layer 6: of.
-/
import Derived.Test.YtlpecdfiagklpaaLaw06B
import Derived.Test.YtlpecdfiagklpaaDenseE
import Derived.Test.YtlpecdfiagklpaaApp
import Derived.Test.YtlpecdfiagklpaaRows2
namespace Go.Proofs.Ytlpecdfiagklpaa
open Go.RowKit
set_option linter.unusedVariables false
set_option linter.unusedSimpArgs false

def wholeF (l : List Int) : List Int := l.map fun x => sat (x * 4294967296)
theorem wholeF_length (l : List Int) : (wholeF l).length = l.length := by simp [wholeF]
theorem wholeF_step {l : List Int} {k : Nat} (h : k < l.length) : (wholeF l).take (k + 1) = (wholeF l).take k ++ [sat (l.getD k 0 * 4294967296)] := by
  rw [List.take_add_one, List.getElem?_eq_getElem (by rw [wholeF_length]; exact h)]
  simp [wholeF, List.getD, List.getElem?_eq_getElem h]
theorem wholeF_fits (l : List Int) : Fits (wholeF l) := by
  intro y hy
  unfold wholeF at hy
  obtain ⟨i, -, rfl⟩ := List.mem_map.1 hy
  exact sat_bounds _

set_option maxRecDepth 100000 in
set_option maxHeartbeats 4000000 in
theorem of6_any (sa : Option Addr) (sl sc : Nat) (la : Option Addr) (n lc : Nat) (ls : List Int) (w : World) (hl : IntsAt w la n ls) (hn : n ≤ 1000) :
    Calls Try.prog 26 #[.slice sa sl sc, .slice la n lc] w fun e w' => ∃ A cap, e = .returned (.agg #[.slice sa sl sc, .slice A n cap]) ∧ w'.ownsRow w.heap.size 47 1 (.slice A n cap) n ((wholeF ls).map (Value.int .i64)) ∧ Below w.heap.size w w' := by
  obtain ⟨wA, hwA, J1, z1, n1⟩ := grid_box w (.slice none 0 0) (.slice none 0 0)
  obtain ⟨wB, hwB, J2, z2, n2⟩ := grid_box wA (.slice sa sl sc) (.slice none 0 0)
  rw [n1.out] at J2
  have z := Lib.hid (z1.out.trans (z2.out.mono z1.out.size))
  have J1' := Lib.hid (J1.out.kept z2.out)
  have hB2 : wB.heap.size = w.heap.size + 2 := by rw [n2.out, n1.out]
  have hll := Lib.hid hl.1
  have hlf := Lib.hid hl.2.2.1
  have HL := Lib.hid (fun w1 (hs : Save (fun k => k = w.heap.size + 1) wB w1) k (hk : k < n) => (by
    rcases hl.2.2.2 with h4 | ⟨b, off, ha, hc⟩
    · omega
    · refine ⟨b, off, ha, ?_⟩
      have h5 := hc k hk
      exact hs.cell (cell_later z.out h5) (by have := World.block_lt_of_cell? w _ h5; show ¬ (b = w.heap.size + 1); have h6 : b < w.heap.size := this; omega) : ∃ b off, la = some ⟨b, off, none⟩ ∧ w1.cell? ⟨b, off + k, none⟩ = some (.int .i64 (ls.getD k 0))))
  have HS := Lib.hid (fun k (hk : k < n) => wholeF_step (l := ls) (k := k) (by rw [hll.out]; exact hk))
  obtain ⟨xs, hxs⟩ : ∃ xs, wholeF ls = xs := ⟨_, rfl⟩
  have hxl : Hid (xs.length = n) := Lib.hid (by rw [← hxs, wholeF_length, hll.out])
  rw [hxs] at HS ⊢
  clear hl J1 hxs
  go_enter Try.func26, Try.ntmps26
  go_upto_region 2 with (fail)
  rw [hwA.out, hwB.out]
  go_wp2_with fail
  go_loopw [12] (fun i wr => ∃ (k : Nat) (t : Value), k ≤ n ∧ i = .int .i64 k ∧ Hid (GAt wr (w.heap.size + 1) (.slice sa sl sc) t) ∧ Hid (wr.ownsRow wB.heap.size 47 1 t k ((xs.take k).map (Value.int .i64))) ∧ Hid (Save (fun k => k = w.heap.size + 1) wB wr)) (fun i _ => n - (intOf i).toNat)
  case atStart => exact ⟨0, _, Nat.zero_le _, rfl, J2, Lib.hid (by rw [List.take_zero]; exact World.ownsRow_nil _ _ _ _), Lib.hid (Save.refl _ _)⟩
  case round =>
    obtain ⟨k, t, hk, rfl, hJT, hrow, hbr⟩ := hrel
    by_cases hlt : k < n
    · obtain ⟨b, off, rfl, hcx⟩ := HL.out wr hbr.out k hlt
      have hst := HS.out k hlt
      obtain ⟨x1, x2⟩ := hlf.out.getD k
      obtain ⟨x, hx⟩ : ∃ x, ls.getD k 0 = x := ⟨_, rfl⟩
      rw [hx] at hcx hst x1 x2
      have II := fun w => int_any x w x1 x2
      have hy12 := Lib.hid (sat_bounds (x * 4294967296))
      obtain ⟨y, hy⟩ : ∃ y, sat (x * 4294967296) = y := ⟨_, rfl⟩
      rw [hy] at hst hy12
      simp only [hy] at II
      have I1 := Lib.hid II
      have HST := Lib.hid hst
      obtain ⟨t0, t1, -, -⟩ := hJT.out.see
      have u1 : wr.drew.cell? ⟨w.heap.size + 1, 1, none⟩ = some t := t1
      clear II hst hy hx x1 x2
      go_wp2_with fail
      refine wp_region_held_drew (S := fun _ => True) (by kernel_rfl) trivial (fun hHeld => ?_)
      refine held_take 0 (.pointer (some ⟨w.heap.size + 1, 1, none⟩)) rfl (by kernel_rfl) (by kernel_rfl) (by kernel_rfl) (fun _ _ _ h => h) (by rfl) (by intro w' hS; go_simp) (by assumption) ?_
      try simp only [Act.put, List.setIfInBounds_toArray, List.set_cons_zero, List.set_cons_succ]
      refine held_take 2 (.int .i64 x) rfl (by kernel_rfl) (by kernel_rfl) (by kernel_rfl) (fun _ _ _ h => h) (by rfl) (by intro w' hS; go_simp) (by assumption) ?_
      try simp only [Act.put, List.setIfInBounds_toArray, List.set_cons_zero, List.set_cons_succ]
      refine held_two 1 3 (by kernel_rfl) rfl rfl (by rfl) (by rfl) (fun K hK => ?_) (fun K hK => ?_)
      · go_simp
        refine hK.out _ _ trivial (fun hHeld => ?_)
        try simp only [Act.put, List.setIfInBounds_toArray, List.set_cons_zero, List.set_cons_succ]
        refine held_call 3 (by kernel_rfl) rfl (by rfl) (fun K hK => ?_)
        go_simp
        refine (I1.out _).mono ?_
        rintro e _ ⟨rfl, rfl⟩
        go_wp2_with fail
        refine hK.out _ _ trivial (fun hHeld => ?_)
        try simp only [Act.put, List.setIfInBounds_toArray, List.set_cons_zero, List.set_cons_succ]
        refine held_call 4 (by kernel_rfl) rfl (by rfl) (fun K hK => ?_)
        go_simp
        have hnw := Lib.hid (IntsAt.made wr.drew 47 [y] 1 rfl (by omega) (by intro n hn; rw [List.mem_singleton] at hn; subst hn; exact hy12.out))
        have hbn : Below wr.heap.size wr (wr.drew.alloc (.cells ([y].map (Value.int .i64)).toArray 47)) := (Below.refl _ _).drew.alloc (Nat.le_refl _) _
        simp only [List.map_cons, List.map_nil] at hnw hbn
        have hnorm : wr.drew.alloc (.cells [Value.int .i64 y].toArray 47) = (wr.alloc (.cells [Value.int .i64 y].toArray 47)).drew := rfl
        rw [hnorm] at hnw hbn
        clear hnorm
        obtain ⟨wn, hnew⟩ : ∃ wn, (wr.alloc (.cells [Value.int .i64 y].toArray 47)).drew = wn := ⟨_, rfl⟩
        rw [hnew] at hnw hbn ⊢
        clear hnew
        have hbn' := Lib.hid hbn
        have hrowq := Lib.hid (row_kept hrow.out hbn)
        clear hbn
        have uL := (hJT.out.kept hbn'.out).see.2.1
        refine hK.out _ _ trivial (fun hHeld => ?_)
        try simp only [Act.put, List.setIfInBounds_toArray, List.set_cons_zero, List.set_cons_succ]
        refine held_call 5 (by kernel_rfl) rfl (by rfl) (fun K hK => ?_)
        refine wp_append_ints _ _ 24 47 rfl Try.underlying24 (by kernel_rfl) wB.heap.size _ k (xs.take k) rfl hrowq.out _ 1 1 [y] rfl hnw.out (fun e => by cases e) (by omega) (Nat.le_trans hbr.out.size hbn'.out.size) ?_
        rintro v5 w5 o5 g5 -
        rw [← HST.out] at o5
        obtain ⟨g5', c5, rfl⟩ := Joins.ownsRow_form o5 (by omega)
        have hS5 := Lib.hid ((hbr.out.later hbn'.out).grown g5 (fun q hq => (hrowq.out.lt q hq).1))
        have o5' := Lib.hid (row_far (p := ⟨w.heap.size + 1, 1, none⟩) (u := (.slice (some ⟨g5', 0, none⟩) (k + 1) c5)) o5 (by show w.heap.size + 1 < wB.heap.size; omega))
        have JT5 : GAt w5 (w.heap.size + 1) (.slice sa sl sc) t := (g5.block _ (Nat.lt_of_lt_of_le hJT.out.lt hbn'.out.size) (fun e => by have := (hrowq.out.lt _ e.symm).1; omega)).trans (hJT.out.kept hbn'.out)
        have JT6 := Lib.hid (show GAt (w5.setCell ⟨w.heap.size + 1, 1, none⟩ (.slice (some ⟨g5', 0, none⟩) (k + 1) c5)) (w.heap.size + 1) (.slice sa sl sc) (.slice (some ⟨g5', 0, none⟩) (k + 1) c5) from Joins.block_setCell (i := 1) JT5 (.slice (some ⟨g5', 0, none⟩) (k + 1) c5))
        have hS6 := Lib.hid (hS5.out.setCell (g := w.heap.size + 1) rfl 1 (.slice (some ⟨g5', 0, none⟩) (k + 1) c5))
        obtain ⟨-, q1, -, qf⟩ := JT5.see
        clear o5 g5 JT5 hnw
        refine hK.out _ _ trivial (fun hHeld => ?_)
        try simp only [Act.put, List.setIfInBounds_toArray, List.set_cons_zero, List.set_cons_succ]
        refine held_take 6 (.pointer (some ⟨w.heap.size + 1, 1, none⟩)) rfl (by kernel_rfl) (by kernel_rfl) (by kernel_rfl) (fun _ _ _ h => h) (by rfl) (by intro w' hS; go_simp) (by assumption) ?_
        try simp only [Act.put, List.setIfInBounds_toArray, List.set_cons_zero, List.set_cons_succ]
        refine held_call 7 (by kernel_rfl) rfl (by rfl) (fun K hK => ?_)
        go_simp
        refine hK.out _ _ trivial (fun hHeld => ?_)
        try simp only [Act.put, List.setIfInBounds_toArray, List.set_cons_zero, List.set_cons_succ]
        refine wpAnyH_done (by kernel_rfl) ?_ _
        go_wp2_with fail
        go_roundw
        case rel => exact ⟨k + 1, _, by omega, by go_num, JT6, o5', hS6⟩
        case measure => (simp [intOf]; try omega)
      · go_simp
        refine (I1.out _).mono ?_
        rintro e _ ⟨rfl, rfl⟩
        go_wp2_with fail
        refine hK.out _ _ trivial (fun hHeld => ?_)
        try simp only [Act.put, List.setIfInBounds_toArray, List.set_cons_zero, List.set_cons_succ]
        refine held_two 1 4 (by kernel_rfl) rfl rfl (by rfl) (by rfl) (fun K hK => ?_) (fun K hK => ?_)
        · go_simp
          refine hK.out _ _ trivial (fun hHeld => ?_)
          try simp only [Act.put, List.setIfInBounds_toArray, List.set_cons_zero, List.set_cons_succ]
          refine held_call 4 (by kernel_rfl) rfl (by rfl) (fun K hK => ?_)
          go_simp
          have hnw := Lib.hid (IntsAt.made wr.drew 47 [y] 1 rfl (by omega) (by intro n hn; rw [List.mem_singleton] at hn; subst hn; exact hy12.out))
          have hbn : Below wr.heap.size wr (wr.drew.alloc (.cells ([y].map (Value.int .i64)).toArray 47)) := (Below.refl _ _).drew.alloc (Nat.le_refl _) _
          simp only [List.map_cons, List.map_nil] at hnw hbn
          have hnorm : wr.drew.alloc (.cells [Value.int .i64 y].toArray 47) = (wr.alloc (.cells [Value.int .i64 y].toArray 47)).drew := rfl
          rw [hnorm] at hnw hbn
          clear hnorm
          obtain ⟨wn, hnew⟩ : ∃ wn, (wr.alloc (.cells [Value.int .i64 y].toArray 47)).drew = wn := ⟨_, rfl⟩
          rw [hnew] at hnw hbn ⊢
          clear hnew
          have hbn' := Lib.hid hbn
          have hrowq := Lib.hid (row_kept hrow.out hbn)
          clear hbn
          have uL := (hJT.out.kept hbn'.out).see.2.1
          refine hK.out _ _ trivial (fun hHeld => ?_)
          try simp only [Act.put, List.setIfInBounds_toArray, List.set_cons_zero, List.set_cons_succ]
          refine held_call 5 (by kernel_rfl) rfl (by rfl) (fun K hK => ?_)
          refine wp_append_ints _ _ 24 47 rfl Try.underlying24 (by kernel_rfl) wB.heap.size _ k (xs.take k) rfl hrowq.out _ 1 1 [y] rfl hnw.out (fun e => by cases e) (by omega) (Nat.le_trans hbr.out.size hbn'.out.size) ?_
          rintro v5 w5 o5 g5 -
          rw [← HST.out] at o5
          obtain ⟨g5', c5, rfl⟩ := Joins.ownsRow_form o5 (by omega)
          have hS5 := Lib.hid ((hbr.out.later hbn'.out).grown g5 (fun q hq => (hrowq.out.lt q hq).1))
          have o5' := Lib.hid (row_far (p := ⟨w.heap.size + 1, 1, none⟩) (u := (.slice (some ⟨g5', 0, none⟩) (k + 1) c5)) o5 (by show w.heap.size + 1 < wB.heap.size; omega))
          have JT5 : GAt w5 (w.heap.size + 1) (.slice sa sl sc) t := (g5.block _ (Nat.lt_of_lt_of_le hJT.out.lt hbn'.out.size) (fun e => by have := (hrowq.out.lt _ e.symm).1; omega)).trans (hJT.out.kept hbn'.out)
          have JT6 := Lib.hid (show GAt (w5.setCell ⟨w.heap.size + 1, 1, none⟩ (.slice (some ⟨g5', 0, none⟩) (k + 1) c5)) (w.heap.size + 1) (.slice sa sl sc) (.slice (some ⟨g5', 0, none⟩) (k + 1) c5) from Joins.block_setCell (i := 1) JT5 (.slice (some ⟨g5', 0, none⟩) (k + 1) c5))
          have hS6 := Lib.hid (hS5.out.setCell (g := w.heap.size + 1) rfl 1 (.slice (some ⟨g5', 0, none⟩) (k + 1) c5))
          obtain ⟨-, q1, -, qf⟩ := JT5.see
          clear o5 g5 JT5 hnw
          refine hK.out _ _ trivial (fun hHeld => ?_)
          try simp only [Act.put, List.setIfInBounds_toArray, List.set_cons_zero, List.set_cons_succ]
          refine held_take 6 (.pointer (some ⟨w.heap.size + 1, 1, none⟩)) rfl (by kernel_rfl) (by kernel_rfl) (by kernel_rfl) (fun _ _ _ h => h) (by rfl) (by intro w' hS; go_simp) (by assumption) ?_
          try simp only [Act.put, List.setIfInBounds_toArray, List.set_cons_zero, List.set_cons_succ]
          refine held_call 7 (by kernel_rfl) rfl (by rfl) (fun K hK => ?_)
          go_simp
          refine hK.out _ _ trivial (fun hHeld => ?_)
          try simp only [Act.put, List.setIfInBounds_toArray, List.set_cons_zero, List.set_cons_succ]
          refine wpAnyH_done (by kernel_rfl) ?_ _
          go_wp2_with fail
          go_roundw
          case rel => exact ⟨k + 1, _, by omega, by go_num, JT6, o5', hS6⟩
          case measure => (simp [intOf]; try omega)
        · go_simp
          have hnw := Lib.hid (IntsAt.made wr.drew 47 [y] 1 rfl (by omega) (by intro n hn; rw [List.mem_singleton] at hn; subst hn; exact hy12.out))
          have hbn : Below wr.heap.size wr (wr.drew.alloc (.cells ([y].map (Value.int .i64)).toArray 47)) := (Below.refl _ _).drew.alloc (Nat.le_refl _) _
          simp only [List.map_cons, List.map_nil] at hnw hbn
          have hnorm : wr.drew.alloc (.cells [Value.int .i64 y].toArray 47) = (wr.alloc (.cells [Value.int .i64 y].toArray 47)).drew := rfl
          rw [hnorm] at hnw hbn
          clear hnorm
          obtain ⟨wn, hnew⟩ : ∃ wn, (wr.alloc (.cells [Value.int .i64 y].toArray 47)).drew = wn := ⟨_, rfl⟩
          rw [hnew] at hnw hbn ⊢
          clear hnew
          have hbn' := Lib.hid hbn
          have hrowq := Lib.hid (row_kept hrow.out hbn)
          clear hbn
          have uL := (hJT.out.kept hbn'.out).see.2.1
          refine hK.out _ _ trivial (fun hHeld => ?_)
          try simp only [Act.put, List.setIfInBounds_toArray, List.set_cons_zero, List.set_cons_succ]
          refine held_call 1 (by kernel_rfl) rfl (by rfl) (fun K hK => ?_)
          go_simp
          refine hK.out _ _ trivial (fun hHeld => ?_)
          try simp only [Act.put, List.setIfInBounds_toArray, List.set_cons_zero, List.set_cons_succ]
          refine held_call 5 (by kernel_rfl) rfl (by rfl) (fun K hK => ?_)
          refine wp_append_ints _ _ 24 47 rfl Try.underlying24 (by kernel_rfl) wB.heap.size _ k (xs.take k) rfl hrowq.out _ 1 1 [y] rfl hnw.out (fun e => by cases e) (by omega) (Nat.le_trans hbr.out.size hbn'.out.size) ?_
          rintro v5 w5 o5 g5 -
          rw [← HST.out] at o5
          obtain ⟨g5', c5, rfl⟩ := Joins.ownsRow_form o5 (by omega)
          have hS5 := Lib.hid ((hbr.out.later hbn'.out).grown g5 (fun q hq => (hrowq.out.lt q hq).1))
          have o5' := Lib.hid (row_far (p := ⟨w.heap.size + 1, 1, none⟩) (u := (.slice (some ⟨g5', 0, none⟩) (k + 1) c5)) o5 (by show w.heap.size + 1 < wB.heap.size; omega))
          have JT5 : GAt w5 (w.heap.size + 1) (.slice sa sl sc) t := (g5.block _ (Nat.lt_of_lt_of_le hJT.out.lt hbn'.out.size) (fun e => by have := (hrowq.out.lt _ e.symm).1; omega)).trans (hJT.out.kept hbn'.out)
          have JT6 := Lib.hid (show GAt (w5.setCell ⟨w.heap.size + 1, 1, none⟩ (.slice (some ⟨g5', 0, none⟩) (k + 1) c5)) (w.heap.size + 1) (.slice sa sl sc) (.slice (some ⟨g5', 0, none⟩) (k + 1) c5) from Joins.block_setCell (i := 1) JT5 (.slice (some ⟨g5', 0, none⟩) (k + 1) c5))
          have hS6 := Lib.hid (hS5.out.setCell (g := w.heap.size + 1) rfl 1 (.slice (some ⟨g5', 0, none⟩) (k + 1) c5))
          obtain ⟨-, q1, -, qf⟩ := JT5.see
          clear o5 g5 JT5 hnw
          refine hK.out _ _ trivial (fun hHeld => ?_)
          try simp only [Act.put, List.setIfInBounds_toArray, List.set_cons_zero, List.set_cons_succ]
          refine held_take 6 (.pointer (some ⟨w.heap.size + 1, 1, none⟩)) rfl (by kernel_rfl) (by kernel_rfl) (by kernel_rfl) (fun _ _ _ h => h) (by rfl) (by intro w' hS; go_simp) (by assumption) ?_
          try simp only [Act.put, List.setIfInBounds_toArray, List.set_cons_zero, List.set_cons_succ]
          refine held_call 7 (by kernel_rfl) rfl (by rfl) (fun K hK => ?_)
          go_simp
          refine hK.out _ _ trivial (fun hHeld => ?_)
          try simp only [Act.put, List.setIfInBounds_toArray, List.set_cons_zero, List.set_cons_succ]
          refine wpAnyH_done (by kernel_rfl) ?_ _
          go_wp2_with fail
          go_roundw
          case rel => exact ⟨k + 1, _, by omega, by go_num, JT6, o5', hS6⟩
          case measure => (simp [intOf]; try omega)
    · obtain rfl : k = n := by omega
      rw [List.take_of_length_le (by rw [hxl.out]; omega)] at hrow
      obtain ⟨t0, t1, -, -⟩ := hJT.out.see
      have JR := hbr.out.gat J1'.out (by omega)
      obtain ⟨e0, e1, f0, f1⟩ := JR.see
      have hS9 := hbr.out.below z.out z.out.size (fun k hk => by subst hk; omega)
      rcases Joins.ownsRow_forms hrow.out with ⟨rfl, e2⟩ | ⟨g, c, rfl⟩
      · obtain ⟨h0, h1, -, -⟩ := (JR.set (.slice sa sl sc) (.slice none 0 0)).see
        subst e2
        have P := Lib.hid (Joins.ownsRow_le (row_far (p := ⟨w.heap.size, 1, none⟩) (u := .slice none 0 0) (row_far (p := ⟨w.heap.size, 0, none⟩) (u := .slice sa sl sc) hrow.out (by show w.heap.size < wB.heap.size; omega)) (by show w.heap.size < wB.heap.size; omega)) z.out.size)
        have Q := Lib.hid ((hS9.setCell (p := ⟨w.heap.size, 0, none⟩) (Nat.le_refl _) (.slice sa sl sc)).setCell (p := ⟨w.heap.size, 1, none⟩) (Nat.le_refl _) (.slice none 0 0))
        go_wp2_with fail
        refine bodyPost_ret (v := .agg #[.slice sa sl sc, .slice none 0 0]) ?_ rfl ⟨none, 0, rfl, P.out, Q.out⟩
        simp [results, Try.results26, go_sem, h0, h1]
      · obtain ⟨h0, h1, -, -⟩ := (JR.set (.slice sa sl sc) (.slice (some ⟨g, 0, none⟩) k c)).see
        have P := Lib.hid (Joins.ownsRow_le (row_far (p := ⟨w.heap.size, 1, none⟩) (u := .slice (some ⟨g, 0, none⟩) k c) (row_far (p := ⟨w.heap.size, 0, none⟩) (u := .slice sa sl sc) hrow.out (by show w.heap.size < wB.heap.size; omega)) (by show w.heap.size < wB.heap.size; omega)) z.out.size)
        have Q := Lib.hid ((hS9.setCell (p := ⟨w.heap.size, 0, none⟩) (Nat.le_refl _) (.slice sa sl sc)).setCell (p := ⟨w.heap.size, 1, none⟩) (Nat.le_refl _) (.slice (some ⟨g, 0, none⟩) k c))
        go_wp2_with fail
        refine bodyPost_ret (v := .agg #[.slice sa sl sc, .slice (some ⟨g, 0, none⟩) k c]) ?_ rfl ⟨_, _, rfl, P.out, Q.out⟩
        simp [results, Try.results26, go_sem, h0, h1]
end Go.Proofs.Ytlpecdfiagklpaa
