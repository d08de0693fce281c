/-
  Contracts of package dense: row, column.
-/
import Derived.Test.YtlpecdfiagklpaaDenseA
namespace Go.Proofs.Ytlpecdfiagklpaa
open Go.RowKit
set_option linter.unusedVariables false
set_option linter.unusedSimpArgs false

set_option maxHeartbeats 2000000 in
theorem row_any (b off sc cb co cl cc m n i : Nat) (w : World) (h1 : w.cell? ⟨b, off + 1, none⟩ = some (.int .i64 n)) (hL : cl = m * n) (hc : cl ≤ cc) (hm : cc ≤ 9223372036854775807) (hl : cl ≤ 65536) (hi : i < m) (hn : 1 ≤ n) :
    Calls Try.prog 30 #[.agg #[.slice (some ⟨b, off, none⟩) 2 sc, .slice (some ⟨cb, co, none⟩) cl cc], .int .i64 i] w fun e w' => e = .returned (.slice (some ⟨cb, co + i * n, none⟩) n (cc - i * n)) ∧ Below w.heap.size w w' := by
  have e1 : (i + 1) * n ≤ m * n := Nat.mul_le_mul_right n hi
  have e2 : m * 1 ≤ m * n := Nat.mul_le_mul_left m hn
  have hm6 : m ≤ 65536 := by omega
  obtain ⟨lo, hlo⟩ : ∃ lo, i * n = lo := ⟨_, rfl⟩
  have hhi : (i + 1) * n = lo + n := by rw [Nat.add_mul, Nat.one_mul, hlo]
  rw [hhi] at e1
  rw [hlo]
  have w1' : IntKind.i64.wrap ((i : Int) * (n : Int)) = (lo : Int) := by
    have : (i : Int) * n = (lo : Int) := by rw [← hlo]; simp
    rw [this]; exact IntWalk.i64_in _ (by omega)
  have w2' : IntKind.i64.wrap (((i : Int) + 1) * (n : Int)) = ((lo + n : Nat) : Int) := by
    have : ((i : Int) + 1) * n = ((lo + n : Nat) : Int) := by rw [← hhi]; simp
    rw [this]; exact IntWalk.i64_in _ (by omega)
  have hr : lo + n ≤ cc := by omega
  have hlc : lo < cc := by omega
  obtain ⟨wB, hwB, J, z0, -⟩ := grid_box w (.slice (some ⟨b, off, none⟩) 2 sc) (.slice (some ⟨cb, co, none⟩) cl cc)
  obtain ⟨j0, j1, -, -⟩ := J.out.see
  have c1 := cell_later z0.out h1
  have hi6 : i ≤ 65536 := by omega
  clear hlo hhi e1 e2 hL hi h1
  go_enter Try.func30, Try.ntmps30
  go_upto_region 1 with (fail)
  rw [hwB.out]
  go_wp2_with fail
  go_ret
  refine ⟨?_, z0.out⟩
  simp

theorem replicate_fits (m : Nat) : Fits (List.replicate m 0) := by
  intro n hn
  rw [List.mem_replicate] at hn
  omega
theorem colD_fits {w : List Int} (h : Fits w) (n m j : Nat) : Fits (colD w n m j) := by
  intro x hx
  unfold colD at hx
  obtain ⟨i, -, rfl⟩ := List.mem_map.1 hx
  exact h.getD _

set_option maxRecDepth 100000 in
set_option maxHeartbeats 4000000 in
theorem column_any (b off sc cb co cl cc m n j : Nat) (cs : List Int) (w : World) (h0 : w.cell? ⟨b, off, none⟩ = some (.int .i64 m)) (h1 : w.cell? ⟨b, off + 1, none⟩ = some (.int .i64 n)) (hC : IntsAt w (some ⟨cb, co, none⟩) cl cs)
    (hL : cl = m * n) (hc : cl ≤ cc) (hm : cc ≤ 9223372036854775807) (hl : cl ≤ 65536) (hj : j < n) :
    Calls Try.prog 35 #[.agg #[.slice (some ⟨b, off, none⟩) 2 sc, .slice (some ⟨cb, co, none⟩) cl cc], .int .i64 j] w (NewFs w m (colD cs n m j)) := by
  have e2 : m * 1 ≤ m * n := Nat.mul_le_mul_left m (by omega)
  have hm6 : m ≤ 65536 := by omega
  obtain ⟨wB, hwB, J, z0, nB⟩ := grid_box w (.slice (some ⟨b, off, none⟩) 2 sc) (.slice (some ⟨cb, co, none⟩) cl cc)
  have c0 := cell_later z0.out h0
  have R := Lib.hid (fun w1 (hb : Below wB.heap.size wB w1) i (hi : i < m) => row_any b off sc cb co cl cc m n i w1 (cell_later hb (cell_later z0.out h1)) hL hc hm hl hi (by omega))
  have HC := Lib.hid (fun w1 (hb : Below wB.heap.size wB w1) i (hi : i < m) => (by
    rcases hC.2.2.2 with h4 | ⟨b', off', ha, hcc⟩
    · have := cell_in (n := n) hi hj; omega
    · cases ha
      have h5 := cell_later hb (cell_later z0.out (hcc (i * n + j) (by rw [hL]; exact cell_in hi hj)))
      rw [← Nat.add_assoc, ← colD_get (w := cs) (n := n) (j := j) hi] at h5
      exact h5 : w1.cell? ⟨cb, co + i * n + j, none⟩ = some (.int .i64 ((colD cs n m j).getD i 0))))
  have hmk := f_made 24 Try.underlying24 m hm6
  have hlen := Lib.hid (colD_length cs n m j)
  obtain ⟨j0, j1, -, -⟩ := J.out.see
  obtain ⟨xs, hxs⟩ : ∃ xs, colD cs n m j = xs := ⟨_, rfl⟩
  rw [hxs] at HC hlen ⊢
  clear h0 h1 hC hL hc hm hl hxs e2
  go_enter Try.func35, Try.ntmps35
  go_upto_region 1 with (fail)
  rw [hwB.out]
  go_upto_region 2 with (fail)
  obtain ⟨w2, hw2⟩ : ∃ w2, wB.alloc (.cells (madeCells #[.int .i64 0] m) 47) = w2 := ⟨_, rfl⟩
  have hR : Hid (List.length (List.replicate m (0 : Int)) = m) := Lib.hid (by simp)
  have ho : Hid (w2.ownsRow wB.heap.size 47 1 (.slice (some ⟨wB.heap.size, 0, none⟩) m m) m ((mixR xs (List.replicate m 0) 0).map (Value.int .i64))) := by
    have := World.ownsRow_lit wB (base := wB.heap.size) (e := 47) (size := 1) (madeCells #[.int .i64 0] m) m (Nat.le_refl _) (by unfold maxLen; omega) (by rw [size_madeCells]; omega)
    rw [toList_madeCells_one, hw2] at this
    rw [mixR_zero]
    refine Lib.hid ?_
    simpa using this
  have zb : Below wB.heap.size wB w2 := by rw [← hw2]; exact (Below.refl _ _).alloc (Nat.le_refl _) _
  have zs : wB.heap.size < w2.heap.size := by rw [← hw2]; simp
  have hb2 := Lib.hid zb
  rw [hw2]
  have k0 : w2.cell? ⟨w.heap.size, 0, none⟩ = some (.slice (some ⟨b, off, none⟩) 2 sc) := cell_later zb j0
  clear hw2 zb hmk c0 k0
  go_wp2_with fail
  go_loopw [14] (fun i wr => ∃ k : Nat, k ≤ m ∧ i = .int .i64 k ∧ Hid (wr.ownsRow wB.heap.size 47 1 (.slice (some ⟨wB.heap.size, 0, none⟩) m m) m ((mixR xs (List.replicate m 0) k).map (Value.int .i64))) ∧ Hid (Below wB.heap.size wB wr)) (fun i _ => m - (intOf i).toNat)
  case atStart => exact ⟨0, Nat.zero_le _, rfl, ho, hb2⟩
  case round =>
    obtain ⟨k, hk, rfl, hrow, hbr⟩ := hrel
    by_cases hlt : k < m
    · obtain ⟨q0, q1, -, -⟩ := (J.out.kept hbr.out).see
      go_wp2_with fail
      refine (R.out wr hbr.out k hlt).mono ?_
      rintro e w3 ⟨rfl, hb3⟩
      have hb3' := Lib.hid (hbr.out.trans (hb3.mono hbr.out.size))
      have hcell := HC.out w3 hb3'.out k hlt
      obtain ⟨x, hx⟩ : ∃ x, xs.getD k 0 = x := ⟨_, rfl⟩
      rw [hx] at hcell
      have hrow3 := Lib.hid (row_kept hrow.out hb3)
      have hcc : w3.cell? ⟨wB.heap.size, k, none⟩ = some (.int .i64 ((List.replicate m (0 : Int)).getD k 0)) := by
        have e : w3.cell? ⟨wB.heap.size, k, none⟩ = ((mixR xs (List.replicate m 0) k).map (Value.int .i64))[k]? := hrow3.out.cellAt k (by omega)
        rw [List.getElem?_map, mixR_get (by rw [hlen.out, hR.out]) (by rw [hR.out]; exact hlt)] at e
        exact e
      have hf := hrow3.out.frozenAt k
      obtain ⟨ho4, hg4⟩ := hrow3.out.stored k (.int .i64 x)
      rw [← hx, ← List.map_set, mixR_set (by rw [hlen.out, hR.out]) (by rw [hR.out]; exact hlt), hx] at ho4
      have ho4' := Lib.hid ho4
      have hb4 := Lib.hid (hb3'.out.setCell (p := ⟨wB.heap.size, k, none⟩) (Nat.le_refl _) (.int .i64 x))
      clear ho4 hg4 hx hb3 q0 q1
      go_wp2_with fail
      go_roundw
      case rel => exact ⟨k + 1, by omega, by go_num, ho4', hb4⟩
      case measure => (simp [intOf]; try omega)
    · obtain rfl : k = m := by omega
      rw [mixR_all hlen.out hR.out] at hrow
      go_wp2_with fail
      go_ret
      exact ⟨_, _, rfl, Joins.ownsRow_le hrow.out z0.out.size, z0.out.trans (hbr.out.mono z0.out.size)⟩
end Go.Proofs.Ytlpecdfiagklpaa
