/-
  Contracts of the statements' file of layer 6: cells, right, same, small, fits.
-/
import Derived.Test.YtlpecdfiagklpaaDenseA
import Derived.Test.YtlpecdfiagklpaaSnoc
namespace Go.Proofs.Ytlpecdfiagklpaa
open Go.RowKit
set_option linter.unusedVariables false
set_option linter.unusedSimpArgs false

set_option maxHeartbeats 2000000 in
theorem cells_any (sa : Option Addr) (sl sc : Nat) (ca : Option Addr) (cl cc : Nat) (cs : List Int) (w : World) (hc : IntsAt w ca cl cs) (hl : cl ≤ 1000) :
    Calls Try.prog 14 #[.agg #[.slice sa sl sc, .slice ca cl cc]] w fun e w' => ∃ A cap, e = .returned (.slice A cl cap) ∧ w'.ownsRow w.heap.size 2 1 (.slice A cl cap) cl (cs.map (Value.int .i64)) ∧ Below w.heap.size w w' := by
  obtain ⟨wA, hwA, J, z, n1⟩ := grid_box w (.slice sa sl sc) (.slice ca cl cc)
  obtain ⟨j0, j1, -, -⟩ := J.out.see
  have HC := Lib.hid (fun w1 (hb : Below wA.heap.size wA w1) => (hc.kept z.out).kept hb)
  have hcl := Lib.hid hc.1
  obtain ⟨i0, hi, hz0, hz1, hz2⟩ := info_parts i64Info
  clear hc
  go_enter Try.func14, Try.ntmps14
  go_upto_region 1 with (fail)
  rw [hwA.out]
  go_wp2_with fail
  go_loopw [3, 9] (fun t i wr => ∃ j : Nat, j ≤ cl ∧ i = .int .i64 j ∧ Hid (wr.ownsRow wA.heap.size 2 1 t j ((cs.take j).map (Value.int .i64))) ∧ Hid (Below wA.heap.size wA wr)) (fun _ i _ => cl - (intOf i).toNat)
  case atStart => exact ⟨0, Nat.zero_le _, rfl, Lib.hid (by rw [List.take_zero]; exact World.ownsRow_nil _ _ _ _), Lib.hid (Below.refl _ _)⟩
  case round =>
    obtain ⟨j, hj, rfl, hrow, hbr⟩ := hrel
    by_cases hlt : j < cl
    · obtain ⟨b, off, rfl, hcell⟩ : ∃ b off, ca = some ⟨b, off, none⟩ ∧ wr.cell? ⟨b, off + j, none⟩ = some (.int .i64 (cs.getD j 0)) := by
        rcases (HC.out wr hbr.out).2.2.2 with h5 | ⟨b, off, ha, hcx⟩
        · omega
        · exact ⟨b, off, ha, hcx j hlt⟩
      have hst : cs.take (j + 1) = cs.take j ++ [cs.getD j 0] := by
        rw [List.take_add_one]
        simp [List.getD, List.getElem?_eq_getElem (show j < cs.length by rw [hcl.out]; exact hlt)]
      obtain ⟨x, hx⟩ : ∃ x, cs.getD j 0 = x := ⟨_, rfl⟩
      rw [hx] at hcell hst
      obtain ⟨L0, hL0⟩ : ∃ L, (cs.take j).map (Value.int .i64) = L := ⟨_, rfl⟩
      have hrw := hrow.out.alloc (.cells #[.int .i64 x] 2)
      rw [hL0] at hrw
      have HL0 := Lib.hid hL0
      have hnew := box_cell wr x 2
      have hone : ∀ u ∈ [Value.int .i64 x], u.oneCell' = true := by intro u hu; simp at hu; subst hu; rfl
      have hb6 : j + 1 ≤ maxLen := by unfold maxLen; omega
      have hb7 : (j + 1) * 8 ≤ 140737488355328 := by omega
      have hb8 : wA.heap.size ≤ (wr.alloc (.cells #[.int .i64 x] 2)).heap.size := by have := hbr.out.size; simp; omega
      have HST := Lib.hid hst
      clear hst hx hL0
      go_wp2_with (at_builtin; refine wpList_append_own _ rfl _ _ 35 rfl wA.heap.size 2 i0 (.int .i64 0) 1 8 Try.underlying35 hi hz0 hz1 hz2 rfl (by decide) _ j _ rfl hrw ⟨wr.heap.size, 0, none⟩ 1 1 [.int .i64 x] rfl rfl hnew hone hb6 hb7 hb8 ?_)
      intro v' w5 hown hgrow hnil
      rw [← HL0.out, ← snoc_int, ← HST.out] at hown
      have hown' := Lib.hid hown
      have hb5 := Lib.hid ((hbr.out.alloc hbr.out.size (.cells #[.int .i64 x] 2)).grown hgrow hb8 (fun q' hq' => (hrow.out.lt q' hq').1))
      clear hown hgrow hnil hcell hnew hone hb6 hb7 hb8 hrw
      go_wp2_with fail
      go_roundw
      case rel => exact ⟨j + 1, by omega, by go_num, hown', hb5⟩
      case measure => (simp [intOf]; try omega)
    · obtain rfl : j = cl := by omega
      rw [List.take_of_length_le (by rw [hcl.out]; omega)] at hrow
      have hq := Joins.ownsRow_le hrow.out z.out.size
      have hb := Lib.hid (z.out.trans (hbr.out.mono z.out.size))
      have hq' := Lib.hid hq
      rcases Joins.ownsRow_forms hrow.out with ⟨e1, e2⟩ | ⟨g, c, e1⟩
      · subst e1
        subst e2
        clear hrow hq
        go_wp2_with fail
        go_ret
        exact ⟨_, _, rfl, hq'.out, hb.out⟩
      · subst e1
        clear hrow hq
        go_wp2_with fail
        go_ret
        exact ⟨_, _, rfl, hq'.out, hb.out⟩
set_option maxHeartbeats 1000000 in
theorem rright_any (sa : Option Addr) (sl sc : Nat) (ss : List Int) (ca : Option Addr) (cl cc : Nat) (w : World) (h : IntsAt w sa sl ss) (hl : cl ≤ 9223372036854775807) :
    Calls Try.prog 16 #[.agg #[.slice sa sl sc, .slice ca cl cc]] w fun e w' => e = .returned (.bool (rightT ss cl)) ∧ Below w.heap.size w w' := by
  obtain ⟨wA, hwA, J1, z1, n1⟩ := grid_box w (.slice sa sl sc) (.slice ca cl cc)
  obtain ⟨j0, j1, -, -⟩ := J1.out.see
  have hd := fun n => (h.kept z1.out).kept (below_drewN' (Below.refl _ _) n)
  have C := fun n => flipW (refshape_any sa sl sc ss (wA.drewN n) (hd n))
  have D := fun hr n => flipW (refsize_any sa sl sc ss (wA.drewN n) (hd n) hr)
  clear h hd
  cases b : rightS ss
  · rw [b] at C
    have C1 := Lib.hid C
    have E := Lib.hid (rightT_no (n := cl) b)
    clear C b D
    go_enter Try.func16, Try.ntmps16
    go_upto_region 1 with (fail)
    rw [hwA.out]
    go_quiet ((go_at_call 36; exact Calls.quiet_of_same (C1.out _)))
    go_wp2_with fail
    go_ret
    exact ⟨ret_bool E.out, below_drewN' z1.out _⟩
  · rw [b] at C
    have C1 := Lib.hid C
    have D1 := D b
    have E1 := Lib.hid (fun h => rightT_yes (n := cl) b h)
    have E2 := Lib.hid (fun h => rightT_len (ss := ss) (n := cl) h)
    clear C b D
    obtain ⟨x, hx⟩ : ∃ x, prodI ss = x := ⟨_, rfl⟩
    rw [hx] at D1 E1 E2
    have D2 := Lib.hid D1
    clear hx D1
    have E : Hid (((cl : Int) == x) = rightT ss cl) := Lib.hid (by
      by_cases c : (cl : Int) = x
      · rw [← E1.out c]; simp [c]
      · rw [← E2.out c]; simp [c])
    clear E1 E2
    go_enter Try.func16, Try.ntmps16
    go_upto_region 1 with (fail)
    rw [hwA.out]
    go_quiet ((first | (go_at_call 36; exact Calls.quiet_of_same (C1.out _)) | (go_at_call 37; exact Calls.quiet_of_same (D2.out _))))
    go_wp2_with fail
    go_ret
    exact ⟨ret_bool E.out, below_drewN' z1.out _⟩
end Go.Proofs.Ytlpecdfiagklpaa
