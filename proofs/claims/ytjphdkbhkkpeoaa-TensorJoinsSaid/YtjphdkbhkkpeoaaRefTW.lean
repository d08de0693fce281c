/-
  Contracts of the reference of layer 4 and of the statements' file: Parts, Cut; cells, same.
-/
import Derived.Test.YtjphdkbhkkpeoaaTCutW
import Derived.Deep.RegionWith
namespace Go.Proofs.Ytjphdkbhkkpeoaa
open Go.RowKit
set_option linter.unusedVariables false
set_option linter.unusedSimpArgs false

theorem i64Info : (Try.prog.info? 2).map (fun i => (i.zero, i.size, i.bytes)) = some (some (.int .i64 0), 1, 8) := by kernel_rfl

set_option maxHeartbeats 1000000 in
theorem refsize_part (a : Option Addr) (len cap : Nat) (zs : List Int) (w : World) (h : IntsAt w a len zs) (r3' : allR 1 1024 zs = true) (r2 : zs.length ≤ 4) (r4 : prodI zs ≤ 65536) :
    Calls Try.prog 17 #[.slice a len cap] w fun e w' => e = .returned (.int .i64 (prodI zs)) ∧ w = w' := by
  have r3 := Lib.hid r3'
  clear r3'
  obtain ⟨h1, h2, h3, h4⟩ := h
  have hl := Lib.hid h1
  go_enter Try.func17, Try.ntmps17
  go_wp2_with fail
  go_loop [3, 4] (fun n i => ∃ k : Nat, k ≤ len ∧ i = .int .i64 k ∧ n = .int .i64 (prodI (zs.take k))) (fun _ i => len - (intOf i).toNat)
  case atStart => exact ⟨0, Nat.zero_le _, rfl, rfl⟩
  case round =>
    obtain ⟨k, hk, rfl, rfl⟩ := hrel
    by_cases hlt : k < len
    · rcases h4 with h4 | ⟨b, off, rfl, hc⟩
      · omega
      · have hcell := hc k hlt
        clear hc
        have P1 := prodI_pos (allR_take r3.out k)
        have P2 := prodI_take_le r3.out k
        have P3 := prodI_take_le r3.out (k + 1)
        have P4 := prodI_pos (allR_take r3.out (k + 1))
        have hs := prodI_step zs k (by omega)
        rw [hs] at P3 P4
        replace hs := Lib.hid hs
        obtain ⟨x1, x2⟩ := allR_getD r3.out k (by omega)
        generalize zs.getD k 0 = x at *
        generalize prodI (zs.take k) = t at *
        generalize prodI zs = T at *
        have q3 : t * x ≤ 65536 := by omega
        have q4 : 0 ≤ t * x := by omega
        clear P3 P4 h1 h3
        go_wp2_with fail
        go_round
        case rel => exact ⟨k + 1, by omega, by go_num, by rw [hs.out]⟩
        case measure => (simp [intOf]; try omega)
    · have e : zs.take k = zs := List.take_of_length_le (by omega)
      rw [e]
      obtain ⟨t, ht⟩ : ∃ t, prodI zs = t := ⟨_, rfl⟩
      rw [ht]
      replace ht := Lib.hid ht
      clear h1 h3 h4 e
      go_wp2_with fail
      go_ret
      exact ⟨ret_int ht.out.symm, rfl⟩

theorem IntsAt.take {w : World} {a : Option Addr} {len : Nat} {zs : List Int} (h : IntsAt w a len zs) (k : Nat) (hk : k ≤ len) : IntsAt w a k (zs.take k) := by
  obtain ⟨h1, h2, h3, h4⟩ := h
  refine ⟨by rw [List.length_take, h1]; omega, by omega, fun n hn => h3 n (List.mem_of_mem_take hn), ?_⟩
  rcases h4 with h4 | ⟨b, off, ha, hc⟩
  · exact .inl (by omega)
  · refine .inr ⟨b, off, ha, fun j hj => ?_⟩
    rw [hc j (by omega)]
    simp [List.getD, List.getElem?_take, hj]
theorem prodI_drop_le {hi : Int} {l : List Int} (h : allR 1 hi l = true) (k : Nat) : prodI (l.drop k) ≤ prodI l := by
  have e : prodI l = prodI (l.take k) * prodI (l.drop k) := by rw [← prodI_append, List.take_append_drop]
  have h1 := prodI_pos (allR_drop h k)
  have h2 := prodI_pos (allR_take h k)
  have h3 : 1 * prodI (l.drop k) ≤ prodI (l.take k) * prodI (l.drop k) := Int.mul_le_mul_of_nonneg_right h2 (by omega)
  omega

set_option maxHeartbeats 2000000 in
theorem parts_any (sa : Option Addr) (sl sc : Nat) (ss : List Int) (k : Nat) (w : World) (h : IntsAt w sa sl ss) (hk : k < sl) (hcap : sl ≤ sc) (hcm : sc ≤ 9223372036854775807) (hr : rightS ss = true) :
    Calls Try.prog 48 #[.slice sa sl sc, .int .i64 k] w fun e w' => e = .returned (.tuple #[.int .i64 (prodI (ss.take k)), .int .i64 (prodI (ss.drop (k + 1)))]) ∧ ∃ n, w' = w.drewN n := by
  obtain ⟨-, hl4, hall, hp⟩ := rightS_parts hr
  have hsl := h.1
  obtain ⟨b, off, rfl⟩ : ∃ b off, sa = some ⟨b, off, none⟩ := by
    rcases h.2.2.2 with h5 | ⟨b, off, ha, _⟩
    · omega
    · exact ⟨b, off, ha⟩
  have kd := fun n => h.kept (below_drewN' (Below.refl w.heap.size w) n)
  have p1 := prodI_take_le hall k
  have p2 := prodI_drop_le hall (k + 1)
  have C1 := fun n (c : Nat) => flipW (refsize_part (some ⟨b, off, none⟩) k c (ss.take k) (w.drewN n) ((kd n).take k (by omega)) (allR_take hall k) (by rw [List.length_take]; omega) (by omega))
  have C2 := fun n (c : Nat) => flipW (refsize_part (some ⟨b, off + (k + 1), none⟩) (sl - (k + 1)) c (ss.drop (k + 1)) (w.drewN n) ((kd n).drop (k + 1) (by omega)) (allR_drop hall _) (by rw [List.length_drop]; omega) (by omega))
  have C3 := fun n (c : Nat) (hz : sl - (k + 1) = 0) => flipW (refsize_part (some ⟨b, off, none⟩) 0 c (ss.drop (k + 1)) (w.drewN n) ⟨by rw [List.length_drop]; omega, by omega, fun q hq => (kd n).2.2.1 q (List.mem_of_mem_drop hq), .inl rfl⟩ (allR_drop hall _) (by rw [List.length_drop]; omega) (by omega))
  obtain ⟨X, hX⟩ : ∃ X, prodI (ss.take k) = X := ⟨_, rfl⟩
  obtain ⟨Y, hY⟩ : ∃ Y, prodI (ss.drop (k + 1)) = Y := ⟨_, rfl⟩
  rw [hX] at C1
  rw [hY] at C2 C3
  rw [hX, hY]
  have D1 := Lib.hid C1
  have D2 := Lib.hid C2
  have D3 := Lib.hid C3
  have hsl4 : sl ≤ 4 := by omega
  have w1 : IntKind.i64.wrap ((k : Int) + 1) = ((k + 1 : Nat) : Int) := by rw [IntWalk.i64_in _ (by omega)]; simp
  clear h C1 C2 C3 kd hr hall hp p1 p2 hX hY hsl hl4
  by_cases hsc : sc = k + 1
  · subst hsc
    have hz : sl - (k + 1) = 0 := by omega
    have E := Lib.hid (fun n c => D3.out n c hz)
    have e1 : sl = k + 1 := by omega
    subst e1
    go_enter Try.func48, Try.ntmps48
    go_wp2_with fail
    go_quiet ((first | (go_at_call 17; with_reducible exact Calls.quiet_of_same (D1.out _ _)) | (go_at_call 17; with_reducible exact Calls.quiet_of_same (E.out _ _))))
    go_wp2_with fail
    go_ret2
    exact ⟨rfl, _, rfl⟩
  · go_enter Try.func48, Try.ntmps48
    go_wp2_with fail
    go_quiet ((first | (go_at_call 17; with_reducible exact Calls.quiet_of_same (D1.out _ _)) | (go_at_call 17; with_reducible exact Calls.quiet_of_same (D2.out _ _))))
    go_wp2_with fail
    go_ret2
    exact ⟨rfl, _, rfl⟩

/-- One number more behind a new row of numbers. -/
theorem snoc_int (L : List Int) (x : Int) : (L ++ [x]).map (Value.int .i64) = L.map (Value.int .i64) ++ [Value.int .i64 x] := by simp
theorem box_cell (w : World) (x : Int) (t : TypeId) : ∀ j u, [Value.int .i64 x][j]? = some u → (w.alloc (.cells #[.int .i64 x] t)).cell? ((⟨w.heap.size, 0, none⟩ : Addr).add j) = some u := by
  intro j u hj
  match j, hj with
  | 0, hj =>
    simp at hj; subst hj
    rw [Addr.add_lit, World.cell?_alloc_at _ _ _ _ rfl]; rfl

set_option maxHeartbeats 2000000 in
theorem cells_any (sa : Option Addr) (sl sc : Nat) (ca : Option Addr) (cl cc : Nat) (cs : List Int) (w : World) (hc : IntsAt w ca cl cs) (hl : cl ≤ 1000) :
    Calls Try.prog 26 #[.agg #[.slice sa sl sc, .slice ca cl cc]] w fun e w' => ∃ A cap, e = .returned (.slice A cl cap) ∧ w'.ownsRow w.heap.size 2 1 (.slice A cl cap) cl (cs.map (Value.int .i64)) ∧ Below w.heap.size w w' := by
  obtain ⟨wA, hwA, J, z, n1⟩ := grid_box w (.slice sa sl sc) (.slice ca cl cc)
  obtain ⟨j0, j1, -, -⟩ := J.out.see
  have HC := Lib.hid (fun w1 (hb : Below wA.heap.size wA w1) => (hc.kept z.out).kept hb)
  have hcl := Lib.hid hc.1
  obtain ⟨i0, hi, hz0, hz1, hz2⟩ := info_parts i64Info
  clear hc
  go_enter Try.func26, Try.ntmps26
  go_upto_region 1 with (fail)
  rw [hwA.out]
  go_wp2_with fail
  go_loopw [3, 9] (fun t i wr => ∃ j : Nat, j ≤ cl ∧ i = .int .i64 j ∧ Hid (wr.ownsRow wA.heap.size 2 1 t j ((cs.take j).map (Value.int .i64))) ∧ Hid (Below wA.heap.size wA wr)) (fun _ i _ => cl - (intOf i).toNat)
  case atStart => exact ⟨0, Nat.zero_le _, rfl, Lib.hid (by rw [List.take_zero]; exact World.ownsRow_nil _ _ _ _), Lib.hid (Below.refl _ _)⟩
  case round =>
    obtain ⟨j, hj, rfl, hrow, hbr⟩ := hrel
    by_cases hlt : j < cl
    · obtain ⟨b, off, rfl, hcell⟩ : ∃ b off, ca = some ⟨b, off, none⟩ ∧ wr.cell? ⟨b, off + j, none⟩ = some (.int .i64 (cs.getD j 0)) := by
        rcases (HC.out wr hbr.out).2.2.2 with h5 | ⟨b, off, ha, hcx⟩
        · omega
        · exact ⟨b, off, ha, hcx j hlt⟩
      have hst : cs.take (j + 1) = cs.take j ++ [cs.getD j 0] := by
        rw [List.take_add_one]
        simp [List.getD, List.getElem?_eq_getElem (show j < cs.length by rw [hcl.out]; exact hlt)]
      obtain ⟨x, hx⟩ : ∃ x, cs.getD j 0 = x := ⟨_, rfl⟩
      rw [hx] at hcell hst
      obtain ⟨L0, hL0⟩ : ∃ L, (cs.take j).map (Value.int .i64) = L := ⟨_, rfl⟩
      have hrw := hrow.out.alloc (.cells #[.int .i64 x] 2)
      rw [hL0] at hrw
      have HL0 := Lib.hid hL0
      have hnew := box_cell wr x 2
      have hone : ∀ u ∈ [Value.int .i64 x], u.oneCell' = true := by intro u hu; simp at hu; subst hu; rfl
      have hb6 : j + 1 ≤ maxLen := by unfold maxLen; omega
      have hb7 : (j + 1) * 8 ≤ 140737488355328 := by omega
      have hb8 : wA.heap.size ≤ (wr.alloc (.cells #[.int .i64 x] 2)).heap.size := by have := hbr.out.size; simp; omega
      have HST := Lib.hid hst
      clear hst hx hL0
      go_wp2_with (at_builtin; refine wpList_append_own _ rfl _ _ 52 rfl wA.heap.size 2 i0 (.int .i64 0) 1 8 Try.underlying52 hi hz0 hz1 hz2 rfl (by decide) _ j _ rfl hrw ⟨wr.heap.size, 0, none⟩ 1 1 [.int .i64 x] rfl rfl hnew hone hb6 hb7 hb8 ?_)
      intro v' w5 hown hgrow hnil
      rw [← HL0.out, ← snoc_int, ← HST.out] at hown
      have hown' := Lib.hid hown
      have hb5 := Lib.hid ((hbr.out.alloc hbr.out.size (.cells #[.int .i64 x] 2)).grown hgrow hb8 (fun q' hq' => (hrow.out.lt q' hq').1))
      clear hown hgrow hnil hcell hnew hone hb6 hb7 hb8 hrw
      go_wp2_with fail
      go_roundw
      case rel => exact ⟨j + 1, by omega, by go_num, hown', hb5⟩
      case measure => (simp [intOf]; try omega)
    · obtain rfl : j = cl := by omega
      rw [List.take_of_length_le (by rw [hcl.out]; omega)] at hrow
      have hq := Joins.ownsRow_le hrow.out z.out.size
      have hb := Lib.hid (z.out.trans (hbr.out.mono z.out.size))
      have hq' := Lib.hid hq
      rcases Joins.ownsRow_forms hrow.out with ⟨e1, e2⟩ | ⟨g, c, e1⟩
      · subst e1
        subst e2
        clear hrow hq
        go_wp2_with fail
        go_ret
        exact ⟨_, _, rfl, hq'.out, hb.out⟩
      · subst e1
        clear hrow hq
        go_wp2_with fail
        go_ret
        exact ⟨_, _, rfl, hq'.out, hb.out⟩
end Go.Proofs.Ytjphdkbhkkpeoaa
