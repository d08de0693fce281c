/-
  Contracts of the reference of layer 6: Go, BackX, BackW.
-/
import Derived.Test.YtlpecdfiagklpaaDenseC
import Derived.Test.YtlpecdfiagklpaaApp
import Derived.Test.YtlpecdfiagklpaaRef01M
namespace Go.Proofs.Ytlpecdfiagklpaa
open Go.RowKit
set_option linter.unusedVariables false
set_option linter.unusedSimpArgs false

/-- What came back is a new slice of these 64-bit integers; all that was there before is as it was. -/
def NewI (w : World) (n : Nat) (zs : List Int) (e : Ending) (w' : World) : Prop :=
  ∃ A cap, e = .returned (.slice A n cap) ∧ w'.ownsRow w.heap.size 2 1 (.slice A n cap) n (zs.map (Value.int .i64)) ∧ Below w.heap.size w w'
theorem dotF_none (a b : List Int) : dotF (a.take 0) (b.take 0) = 0 := by simp [dotF]
theorem at_cell {w : World} {b off n : Nat} {zs : List Int} (h : IntsAt w (some ⟨b, off, none⟩) n zs) {j : Nat} (hj : j < n) : w.cell? ⟨b, off + j, none⟩ = some (.int .i64 (zs.getD j 0)) := by
  rcases h.2.2.2 with h4 | ⟨b', o', ha, hc⟩
  · omega
  · cases ha; exact hc j hj

set_option maxRecDepth 100000 in
set_option maxHeartbeats 4000000 in
theorem refgo_any (m n wl wb wo wc bb bo bc xb xo xc : Nat) (ws bs xs : List Int) (w : World) (hW : IntsAt w (some ⟨wb, wo, none⟩) wl ws) (hL : wl = m * n) (hB : IntsAt w (some ⟨bb, bo, none⟩) m bs) (hX : IntsAt w (some ⟨xb, xo, none⟩) n xs) (hm6 : m ≤ 1000) (hn6 : n ≤ 1000) :
    Calls Try.prog 13 #[.int .i64 m, .slice (some ⟨wb, wo, none⟩) wl wc, .slice (some ⟨bb, bo, none⟩) m bc, .slice (some ⟨xb, xo, none⟩) n xc] w (NewI w m (goD m n ws bs xs)) := by
  obtain ⟨i0, hi, hz0, hz1, hz2⟩ := info_parts i64Info
  have HW := Lib.hid (fun w1 (hb : Below w.heap.size w w1) => hW.kept hb)
  have HB := Lib.hid (fun w1 (hb : Below w.heap.size w w1) => hB.kept hb)
  have HX := Lib.hid (fun w1 (hb : Below w.heap.size w w1) => hX.kept hb)
  have hwl := Lib.hid (hW.1.trans hL)
  have HLL := Lib.hid hL
  have hxl := Lib.hid hX.1
  have hWf := Lib.hid hW.2.2.1
  have hBf := Lib.hid hB.2.2.1
  have hXf := Lib.hid hX.2.2.1
  clear hW hB hX hL
  go_enter Try.func13, Try.ntmps13
  go_wp2_with fail
  go_loopw [10, 11] (fun t i wr => ∃ k : Nat, k ≤ m ∧ i = .int .i64 k ∧ Hid (wr.ownsRow w.heap.size 2 1 t k (((goD m n ws bs xs).take k).map (Value.int .i64))) ∧ Hid (Below w.heap.size w wr)) (fun _ i _ => m - (intOf i).toNat)
  case atStart => exact ⟨0, Nat.zero_le _, rfl, Lib.hid (by rw [List.take_zero]; exact World.ownsRow_nil _ _ _ _), Lib.hid (Below.refl _ _)⟩
  case round =>
    obtain ⟨k, hk, rfl, hrow, hbr⟩ := hrel
    by_cases hlt : k < m
    · have hknb : k * n + n ≤ m * n := by have := Nat.mul_le_mul_right n hlt; rw [Nat.succ_mul] at this; exact this
      have hmn : m * n ≤ 1000000 := Nat.mul_le_mul hm6 hn6
      have RG := Lib.hid (fun j (hj : j < n) => rowD_get (w := ws) (n := n) (i := k) hj)
      have RL := Lib.hid (rowD_length (n := n) hwl.out hlt)
      have w1' : IntKind.i64.wrap ((k : Int) * (n : Int)) = ((k * n : Nat) : Int) := by
        have : (k : Int) * n = ((k * n : Nat) : Int) := by simp
        rw [this]; exact IntWalk.i64_in _ (by omega)
      obtain ⟨kn, hkn⟩ : ∃ kn, k * n = kn := ⟨_, rfl⟩
      rw [hkn] at hknb w1' RG
      obtain ⟨rd, hrd⟩ : ∃ rd, rowD ws n k = rd := ⟨_, rfl⟩
      rw [hrd] at RL
      simp only [hrd] at RG
      have HST0 := goD_step (n := n) (w := ws) (b := bs) (x := xs) hlt
      rw [hrd] at HST0
      have HS := Lib.hid HST0
      clear HST0 hrd hkn
      go_wp2_with fail
      go_loopw [12, 13] (fun s j wr => ∃ (d : Int) (jj : Nat), jj ≤ n ∧ j = .int .i64 jj ∧ s = .int .i64 d ∧ Hid (d = dotF (rd.take jj) (xs.take jj)) ∧ Hid (wr.ownsRow w.heap.size 2 1 u10 k (((goD m n ws bs xs).take k).map (Value.int .i64))) ∧ Hid (Below w.heap.size w wr)) (fun _ j _ => n - (intOf j).toNat)
      case atStart => exact ⟨0, 0, Nat.zero_le _, rfl, rfl, Lib.hid (dotF_none _ _).symm, hrow, hbr⟩
      case round =>
        clear hrow hbr
        obtain ⟨d, jj, hj, rfl, rfl, hd, hrow, hbr⟩ := hrel
        by_cases hltj : jj < n
        · have hcy := at_cell (HW.out wr hbr.out) (j := kn + jj) (by rw [HLL.out]; omega)
          have hcz := at_cell (HX.out wr hbr.out) hltj
          have hst := dotF_step rd xs jj (by rw [RL.out]; exact hltj) (by rw [hxl.out]; exact hltj)
          rw [← hd.out, RG.out jj hltj] at hst
          obtain ⟨y1, y2⟩ := hWf.out.getD (kn + jj)
          obtain ⟨z1, z2⟩ := hXf.out.getD jj
          obtain ⟨d1, d2⟩ := dotF_bounds (rd.take jj) (xs.take jj)
          rw [← hd.out] at d1 d2
          obtain ⟨y, hy⟩ : ∃ y, ws.getD (kn + jj) 0 = y := ⟨_, rfl⟩
          obtain ⟨z, hz⟩ : ∃ z, xs.getD jj 0 = z := ⟨_, rfl⟩
          rw [hy] at hcy hst y1 y2
          rw [hz] at hcz hst z1 z2
          obtain ⟨p1, p2⟩ := mulF_bounds y z
          have MM := fun w => refmul_any y z w y1 y2 z1 z2
          obtain ⟨p, hp⟩ : ∃ p, mulF y z = p := ⟨_, rfl⟩
          rw [hp] at hst p1 p2
          simp only [hp] at MM
          have AA := fun w => refadd_any d p w d1 d2 p1 p2
          obtain ⟨s, hs⟩ : ∃ s, sat (d + p) = s := ⟨_, rfl⟩
          rw [hs] at hst
          simp only [hs] at AA
          have M1 := Lib.hid MM
          have A1 := Lib.hid AA
          have hst' := Lib.hid hst.symm
          have hidx : kn + jj < wl := by rw [HLL.out]; omega
          have hI1 : (0 : Int) ≤ (kn : Int) + (jj : Int) := by omega
          have hI2 : (kn : Int) + (jj : Int) < (wl : Int) := by omega
          have hI3 : ((kn : Int) + (jj : Int)).toNat = kn + jj := by omega
          have w2' : IntKind.i64.wrap ((kn : Int) + (jj : Int)) = (kn : Int) + (jj : Int) := IntWalk.i64_in _ (by omega)
          clear MM AA hst hy hz hp hs y1 y2 z1 z2 d1 d2 p1 p2
          go_wp2_with fail
          have SK := Lib.hid (fun w' (hb : Below wr.heap.size wr w') => (show w'.cell? ⟨wb, wo + (kn + jj), none⟩ = some (.int .i64 y) ∧ w'.cell? ⟨xb, xo + jj, none⟩ = some (.int .i64 z) from ⟨cell_later hb hcy, cell_later hb hcz⟩))
          have t1 := Lib.hid (show Below wr.heap.size wr wr.drew from (Below.refl _ _).drew)
          refine wp_region_held_drew (S := fun w' => w'.cell? ⟨wb, wo + (kn + jj), none⟩ = some (.int .i64 y) ∧ w'.cell? ⟨xb, xo + jj, none⟩ = some (.int .i64 z)) (by kernel_rfl) (SK.out _ t1.out) (fun hHeld => ?_)
          refine held_take 0 (.int .i64 d) rfl (by kernel_rfl) (by kernel_rfl) (by kernel_rfl) (fun _ _ _ h => h) (by rfl) (by intro w' hS; go_simp) (by assumption) ?_
          try simp only [Act.put, List.setIfInBounds_toArray, List.set_cons_zero, List.set_cons_succ]
          refine held_take 1 (.slice (some ⟨wb, wo, none⟩) wl wc) rfl (by kernel_rfl) (by kernel_rfl) (by kernel_rfl) (fun _ _ _ h => h) (by rfl) (by intro w' hS; go_simp) (by assumption) ?_
          try simp only [Act.put, List.setIfInBounds_toArray, List.set_cons_zero, List.set_cons_succ]
          refine held_take 2 (.int .i64 k) rfl (by kernel_rfl) (by kernel_rfl) (by kernel_rfl) (fun _ _ _ h => h) (by rfl) (by intro w' hS; go_simp) (by assumption) ?_
          try simp only [Act.put, List.setIfInBounds_toArray, List.set_cons_zero, List.set_cons_succ]
          refine held_take 3 (.int .i64 n) rfl (by kernel_rfl) (by kernel_rfl) (by kernel_rfl) (fun _ _ _ h => h) (by rfl) (by intro w' hS; go_simp) (by assumption) ?_
          try simp only [Act.put, List.setIfInBounds_toArray, List.set_cons_zero, List.set_cons_succ]
          refine held_take 4 (.int .i64 kn) rfl (by kernel_rfl) (by kernel_rfl) (by kernel_rfl) (fun _ _ _ h => h) (by rfl) (by intro w' hS; go_simp) (by assumption) ?_
          try simp only [Act.put, List.setIfInBounds_toArray, List.set_cons_zero, List.set_cons_succ]
          refine held_take 5 (.int .i64 jj) rfl (by kernel_rfl) (by kernel_rfl) (by kernel_rfl) (fun _ _ _ h => h) (by rfl) (by intro w' hS; go_simp) (by assumption) ?_
          try simp only [Act.put, List.setIfInBounds_toArray, List.set_cons_zero, List.set_cons_succ]
          refine held_take 6 (.int .i64 ((kn : Int) + (jj : Int))) rfl (by kernel_rfl) (by kernel_rfl) (by kernel_rfl) (fun _ _ _ h => h) (by rfl) (by intro w' hS; go_simp) (by assumption) ?_
          try simp only [Act.put, List.setIfInBounds_toArray, List.set_cons_zero, List.set_cons_succ]
          refine held_take 7 (.pointer (some ⟨wb, wo + (kn + jj), none⟩)) rfl (by kernel_rfl) (by kernel_rfl) (by kernel_rfl) (fun _ _ _ h => h) (by rfl) (by intro w' hS; go_simp) (by assumption) ?_
          try simp only [Act.put, List.setIfInBounds_toArray, List.set_cons_zero, List.set_cons_succ]
          refine held_take 8 (.int .i64 y) rfl (by kernel_rfl) (by kernel_rfl) (by kernel_rfl) (fun _ _ _ h => h) (by rfl) (by intro w' hS; go_simp) (by assumption) ?_
          try simp only [Act.put, List.setIfInBounds_toArray, List.set_cons_zero, List.set_cons_succ]
          refine held_take 9 (.slice (some ⟨xb, xo, none⟩) n xc) rfl (by kernel_rfl) (by kernel_rfl) (by kernel_rfl) (fun _ _ _ h => h) (by rfl) (by intro w' hS; go_simp) (by assumption) ?_
          try simp only [Act.put, List.setIfInBounds_toArray, List.set_cons_zero, List.set_cons_succ]
          refine held_take 10 (.int .i64 jj) rfl (by kernel_rfl) (by kernel_rfl) (by kernel_rfl) (fun _ _ _ h => h) (by rfl) (by intro w' hS; go_simp) (by assumption) ?_
          try simp only [Act.put, List.setIfInBounds_toArray, List.set_cons_zero, List.set_cons_succ]
          refine held_take 11 (.pointer (some ⟨xb, xo + jj, none⟩)) rfl (by kernel_rfl) (by kernel_rfl) (by kernel_rfl) (fun _ _ _ h => h) (by rfl) (by intro w' hS; go_simp) (by assumption) ?_
          try simp only [Act.put, List.setIfInBounds_toArray, List.set_cons_zero, List.set_cons_succ]
          refine held_take 12 (.int .i64 z) rfl (by kernel_rfl) (by kernel_rfl) (by kernel_rfl) (fun _ _ _ h => h) (by rfl) (by intro w' hS; go_simp) (by assumption) ?_
          try simp only [Act.put, List.setIfInBounds_toArray, List.set_cons_zero, List.set_cons_succ]
          refine held_call 13 (by kernel_rfl) rfl (by rfl) (fun K hK => ?_)
          go_simp
          refine (M1.out wr.drew).mono ?_
          rintro e wq1 ⟨rfl, hb⟩
          have bq1 := Lib.hid (t1.out.trans ((hb).mono t1.out.size))
          go_wp2_with fail
          refine hK.out _ _ (SK.out _ bq1.out) (fun hHeld => ?_)
          try simp only [Act.put, List.setIfInBounds_toArray, List.set_cons_zero, List.set_cons_succ]
          refine held_call 14 (by kernel_rfl) rfl (by rfl) (fun K hK => ?_)
          go_simp
          refine (A1.out _).mono ?_
          rintro e _ ⟨rfl, rfl⟩
          have bq2 := Lib.hid (bq1.out.trans ((Below.refl _ _).mono bq1.out.size))
          go_wp2_with fail
          refine hK.out _ _ (SK.out _ bq2.out) (fun hHeld => ?_)
          try simp only [Act.put, List.setIfInBounds_toArray, List.set_cons_zero, List.set_cons_succ]
          refine held_take 15 (.int .i64 s) rfl (by kernel_rfl) (by kernel_rfl) (by kernel_rfl) (fun _ _ _ h => h) (by rfl) (by intro w' hS; go_simp) (by assumption) ?_
          try simp only [Act.put, List.setIfInBounds_toArray, List.set_cons_zero, List.set_cons_succ]
          refine wpAnyH_done (by kernel_rfl) ?_ _
          have hrow2 := Lib.hid (row_kept hrow.out bq2.out)
          have hbr2 := Lib.hid (hbr.out.trans (bq2.out.mono hbr.out.size))
          go_wp2_with fail
          go_roundw
          case rel => exact ⟨s, jj + 1, by omega, by go_num, rfl, hst', hrow2, hbr2⟩
          case measure => (simp [intOf]; try omega)
        · obtain rfl : jj = n := by omega
          have hd2 := hd.out
          rw [List.take_of_length_le (by rw [RL.out]; omega), List.take_of_length_le (by rw [hxl.out]; omega)] at hd2
          have hcb := at_cell (HB.out wr hbr.out) hlt
          obtain ⟨y1, y2⟩ := hBf.out.getD k
          obtain ⟨d1, d2⟩ := dotF_bounds rd xs
          have hst := HS.out
          rw [← hd2] at d1 d2 hst
          obtain ⟨y, hy⟩ : ∃ y, bs.getD k 0 = y := ⟨_, rfl⟩
          rw [hy] at hcb hst y1 y2
          have AA := fun w => refadd_any d y w d1 d2 y1 y2
          obtain ⟨s, hs⟩ : ∃ s, sat (d + y) = s := ⟨_, rfl⟩
          rw [hs] at hst
          simp only [hs] at AA
          have A1 := Lib.hid AA
          have HST := Lib.hid hst
          clear AA hst hs hy y1 y2 d1 d2 hd2 w1'
          go_wp2_with fail
          refine (A1.out _).mono ?_
          rintro e wv ⟨rfl, rfl⟩
          obtain ⟨L0, hL0⟩ : ∃ L, ((goD m jj ws bs xs).take k).map (Value.int .i64) = L := ⟨_, rfl⟩
          have HL0 := Lib.hid hL0
          have hrowL := hrow.out
          rw [hL0] at hrowL
          have HROW := Lib.hid hrowL
          obtain ⟨s1, s2, s3, s4, s5, s6⟩ := snoc_of s HROW.out hbr.out (by omega)
          clear hL0 hrowL
          go_wp2_with (at_builtin; refine wpList_append_own _ rfl _ _ 35 rfl w.heap.size 2 i0 (.int .i64 0) 1 8 Try.underlying35 hi hz0 hz1 hz2 rfl (by decide) _ k _ rfl s1 ⟨_, 0, none⟩ 1 1 [.int .i64 s] rfl rfl s2 s3 s4 s5 s6 ?_)
          intro v' w5 hown hgrow hnil
          have hb5 := Lib.hid (snoc_below HROW.out hbr.out hgrow)
          rw [← HL0.out, ← snoc_int, ← HST.out] at hown
          have hown' := Lib.hid hown
          clear hown hgrow hnil s1 s2 s3 s4 s5 s6
          go_wp2_with fail
          go_roundw
          case rel => exact ⟨k + 1, by omega, by go_num, hown', hb5⟩
          case measure => (simp [intOf]; try omega)
    · obtain rfl : k = m := by omega
      rw [List.take_of_length_le (by rw [goD_length]; omega)] at hrow
      rcases Joins.ownsRow_forms hrow.out with ⟨e1, e2⟩ | ⟨g, c, e1⟩
      · subst e1
        subst e2
        go_wp2_with fail
        go_ret
        exact ⟨_, _, rfl, hrow.out, hbr.out⟩
      · subst e1
        go_wp2_with fail
        go_ret
        exact ⟨_, _, rfl, hrow.out, hbr.out⟩

set_option maxRecDepth 100000 in
set_option maxHeartbeats 4000000 in
theorem refbackx_any (m n wl wb wo wc gb gf gc : Nat) (ws gs : List Int) (w : World) (hW : IntsAt w (some ⟨wb, wo, none⟩) wl ws) (hL : wl = m * n) (hX : IntsAt w (some ⟨gb, gf, none⟩) m gs) (hm6 : m ≤ 1000) (hn6 : n ≤ 1000) :
    Calls Try.prog 19 #[.int .i64 n, .slice (some ⟨wb, wo, none⟩) wl wc, .slice (some ⟨gb, gf, none⟩) m gc] w (NewI w n (backX m n ws gs)) := by
  obtain ⟨i0, hi, hz0, hz1, hz2⟩ := info_parts i64Info
  have HW := Lib.hid (fun w1 (hb : Below w.heap.size w w1) => hW.kept hb)
  have HX := Lib.hid (fun w1 (hb : Below w.heap.size w w1) => hX.kept hb)
  have hwl := Lib.hid (hW.1.trans hL)
  have HLL := Lib.hid hL
  have hxl := Lib.hid hX.1
  have hWf := Lib.hid hW.2.2.1
  have hXf := Lib.hid hX.2.2.1
  have hmn : m * n ≤ 1000000 := Nat.mul_le_mul hm6 hn6
  clear hW hX hL
  go_enter Try.func19, Try.ntmps19
  go_wp2_with fail
  go_loopw [7, 8] (fun t i wr => ∃ k : Nat, k ≤ n ∧ i = .int .i64 k ∧ Hid (wr.ownsRow w.heap.size 2 1 t k (((backX m n ws gs).take k).map (Value.int .i64))) ∧ Hid (Below w.heap.size w wr)) (fun _ i _ => n - (intOf i).toNat)
  case atStart => exact ⟨0, Nat.zero_le _, rfl, Lib.hid (by rw [List.take_zero]; exact World.ownsRow_nil _ _ _ _), Lib.hid (Below.refl _ _)⟩
  case round =>
    obtain ⟨k, hk, rfl, hrow, hbr⟩ := hrel
    by_cases hlt : k < n
    · have RG := Lib.hid (fun i (hi : i < m) => colD_get (w := ws) (n := n) (j := k) hi)
      have RL := Lib.hid (colD_length ws n m k)
      have HST0 := backX_step (m := m) (w := ws) (g := gs) hlt
      obtain ⟨rd, hrd⟩ : ∃ rd, colD ws n m k = rd := ⟨_, rfl⟩
      rw [hrd] at RL HST0
      simp only [hrd] at RG
      have HS := Lib.hid HST0
      clear HST0 hrd
      go_wp2_with fail
      go_loopw [9, 10] (fun s j wr => ∃ (d : Int) (ii : Nat), ii ≤ m ∧ j = .int .i64 ii ∧ s = .int .i64 d ∧ Hid (d = dotF (rd.take ii) (gs.take ii)) ∧ Hid (wr.ownsRow w.heap.size 2 1 u7 k (((backX m n ws gs).take k).map (Value.int .i64))) ∧ Hid (Below w.heap.size w wr)) (fun _ j _ => m - (intOf j).toNat)
      case atStart => exact ⟨0, 0, Nat.zero_le _, rfl, rfl, Lib.hid (dotF_none _ _).symm, hrow, hbr⟩
      case round =>
        clear hrow hbr
        obtain ⟨d, ii, hj, rfl, rfl, hd, hrow, hbr⟩ := hrel
        by_cases hltj : ii < m
        · have hidx0 := cell_in hltj hlt
          have w1' : IntKind.i64.wrap ((ii : Int) * (n : Int)) = ((ii * n : Nat) : Int) := by
            have : (ii : Int) * n = ((ii * n : Nat) : Int) := by simp
            rw [this]; exact IntWalk.i64_in _ (by omega)
          have hst := dotF_step rd gs ii (by rw [RL.out]; exact hltj) (by rw [hxl.out]; exact hltj)
          rw [← hd.out, RG.out ii hltj] at hst
          obtain ⟨inn, hinn⟩ : ∃ inn, ii * n = inn := ⟨_, rfl⟩
          rw [hinn] at hidx0 w1' hst
          have hidx : inn + k < wl := by rw [HLL.out]; exact hidx0
          have hI1 : (0 : Int) ≤ (inn : Int) + (k : Int) := by omega
          have hI2 : (inn : Int) + (k : Int) < (wl : Int) := by omega
          have hI3 : ((inn : Int) + (k : Int)).toNat = inn + k := by omega
          have w2' : IntKind.i64.wrap ((inn : Int) + (k : Int)) = (inn : Int) + (k : Int) := IntWalk.i64_in _ (by omega)
          have hcy := at_cell (HW.out wr hbr.out) hidx
          have hcz := at_cell (HX.out wr hbr.out) hltj
          obtain ⟨y1, y2⟩ := hWf.out.getD (inn + k)
          obtain ⟨z1, z2⟩ := hXf.out.getD ii
          obtain ⟨d1, d2⟩ := dotF_bounds (rd.take ii) (gs.take ii)
          rw [← hd.out] at d1 d2
          obtain ⟨y, hy⟩ : ∃ y, ws.getD (inn + k) 0 = y := ⟨_, rfl⟩
          obtain ⟨z, hz⟩ : ∃ z, gs.getD ii 0 = z := ⟨_, rfl⟩
          rw [hy] at hcy hst y1 y2
          rw [hz] at hcz hst z1 z2
          obtain ⟨p1, p2⟩ := mulF_bounds y z
          have MM := fun w => refmul_any y z w y1 y2 z1 z2
          obtain ⟨p, hp⟩ : ∃ p, mulF y z = p := ⟨_, rfl⟩
          rw [hp] at hst p1 p2
          simp only [hp] at MM
          have AA := fun w => refadd_any d p w d1 d2 p1 p2
          obtain ⟨s, hs⟩ : ∃ s, sat (d + p) = s := ⟨_, rfl⟩
          rw [hs] at hst
          simp only [hs] at AA
          have M1 := Lib.hid MM
          have A1 := Lib.hid AA
          have hst' := Lib.hid hst.symm
          clear MM AA hst hy hz hp hs y1 y2 z1 z2 d1 d2 p1 p2 hinn hidx0
          go_wp2_with fail
          have SK := Lib.hid (fun w' (hb : Below wr.heap.size wr w') => (show w'.cell? ⟨wb, wo + (inn + k), none⟩ = some (.int .i64 y) ∧ w'.cell? ⟨gb, gf + ii, none⟩ = some (.int .i64 z) from ⟨cell_later hb hcy, cell_later hb hcz⟩))
          have t1 := Lib.hid (show Below wr.heap.size wr wr.drew from (Below.refl _ _).drew)
          refine wp_region_held_drew (S := fun w' => w'.cell? ⟨wb, wo + (inn + k), none⟩ = some (.int .i64 y) ∧ w'.cell? ⟨gb, gf + ii, none⟩ = some (.int .i64 z)) (by kernel_rfl) (SK.out _ t1.out) (fun hHeld => ?_)
          refine held_take 0 (.int .i64 d) rfl (by kernel_rfl) (by kernel_rfl) (by kernel_rfl) (fun _ _ _ h => h) (by rfl) (by intro w' hS; go_simp) (by assumption) ?_
          try simp only [Act.put, List.setIfInBounds_toArray, List.set_cons_zero, List.set_cons_succ]
          refine held_take 1 (.slice (some ⟨wb, wo, none⟩) wl wc) rfl (by kernel_rfl) (by kernel_rfl) (by kernel_rfl) (fun _ _ _ h => h) (by rfl) (by intro w' hS; go_simp) (by assumption) ?_
          try simp only [Act.put, List.setIfInBounds_toArray, List.set_cons_zero, List.set_cons_succ]
          refine held_take 2 (.int .i64 ii) rfl (by kernel_rfl) (by kernel_rfl) (by kernel_rfl) (fun _ _ _ h => h) (by rfl) (by intro w' hS; go_simp) (by assumption) ?_
          try simp only [Act.put, List.setIfInBounds_toArray, List.set_cons_zero, List.set_cons_succ]
          refine held_take 3 (.int .i64 n) rfl (by kernel_rfl) (by kernel_rfl) (by kernel_rfl) (fun _ _ _ h => h) (by rfl) (by intro w' hS; go_simp) (by assumption) ?_
          try simp only [Act.put, List.setIfInBounds_toArray, List.set_cons_zero, List.set_cons_succ]
          refine held_take 4 (.int .i64 inn) rfl (by kernel_rfl) (by kernel_rfl) (by kernel_rfl) (fun _ _ _ h => h) (by rfl) (by intro w' hS; go_simp) (by assumption) ?_
          try simp only [Act.put, List.setIfInBounds_toArray, List.set_cons_zero, List.set_cons_succ]
          refine held_take 5 (.int .i64 k) rfl (by kernel_rfl) (by kernel_rfl) (by kernel_rfl) (fun _ _ _ h => h) (by rfl) (by intro w' hS; go_simp) (by assumption) ?_
          try simp only [Act.put, List.setIfInBounds_toArray, List.set_cons_zero, List.set_cons_succ]
          refine held_take 6 (.int .i64 ((inn : Int) + (k : Int))) rfl (by kernel_rfl) (by kernel_rfl) (by kernel_rfl) (fun _ _ _ h => h) (by rfl) (by intro w' hS; go_simp) (by assumption) ?_
          try simp only [Act.put, List.setIfInBounds_toArray, List.set_cons_zero, List.set_cons_succ]
          refine held_take 7 (.pointer (some ⟨wb, wo + (inn + k), none⟩)) rfl (by kernel_rfl) (by kernel_rfl) (by kernel_rfl) (fun _ _ _ h => h) (by rfl) (by intro w' hS; go_simp) (by assumption) ?_
          try simp only [Act.put, List.setIfInBounds_toArray, List.set_cons_zero, List.set_cons_succ]
          refine held_take 8 (.int .i64 y) rfl (by kernel_rfl) (by kernel_rfl) (by kernel_rfl) (fun _ _ _ h => h) (by rfl) (by intro w' hS; go_simp) (by assumption) ?_
          try simp only [Act.put, List.setIfInBounds_toArray, List.set_cons_zero, List.set_cons_succ]
          refine held_take 9 (.slice (some ⟨gb, gf, none⟩) m gc) rfl (by kernel_rfl) (by kernel_rfl) (by kernel_rfl) (fun _ _ _ h => h) (by rfl) (by intro w' hS; go_simp) (by assumption) ?_
          try simp only [Act.put, List.setIfInBounds_toArray, List.set_cons_zero, List.set_cons_succ]
          refine held_take 10 (.int .i64 ii) rfl (by kernel_rfl) (by kernel_rfl) (by kernel_rfl) (fun _ _ _ h => h) (by rfl) (by intro w' hS; go_simp) (by assumption) ?_
          try simp only [Act.put, List.setIfInBounds_toArray, List.set_cons_zero, List.set_cons_succ]
          refine held_take 11 (.pointer (some ⟨gb, gf + ii, none⟩)) rfl (by kernel_rfl) (by kernel_rfl) (by kernel_rfl) (fun _ _ _ h => h) (by rfl) (by intro w' hS; go_simp) (by assumption) ?_
          try simp only [Act.put, List.setIfInBounds_toArray, List.set_cons_zero, List.set_cons_succ]
          refine held_take 12 (.int .i64 z) rfl (by kernel_rfl) (by kernel_rfl) (by kernel_rfl) (fun _ _ _ h => h) (by rfl) (by intro w' hS; go_simp) (by assumption) ?_
          try simp only [Act.put, List.setIfInBounds_toArray, List.set_cons_zero, List.set_cons_succ]
          refine held_call 13 (by kernel_rfl) rfl (by rfl) (fun K hK => ?_)
          go_simp
          refine (M1.out wr.drew).mono ?_
          rintro e wq1 ⟨rfl, hb⟩
          have bq1 := Lib.hid (t1.out.trans ((hb).mono t1.out.size))
          go_wp2_with fail
          refine hK.out _ _ (SK.out _ bq1.out) (fun hHeld => ?_)
          try simp only [Act.put, List.setIfInBounds_toArray, List.set_cons_zero, List.set_cons_succ]
          refine held_call 14 (by kernel_rfl) rfl (by rfl) (fun K hK => ?_)
          go_simp
          refine (A1.out _).mono ?_
          rintro e _ ⟨rfl, rfl⟩
          have bq2 := Lib.hid (bq1.out.trans ((Below.refl _ _).mono bq1.out.size))
          go_wp2_with fail
          refine hK.out _ _ (SK.out _ bq2.out) (fun hHeld => ?_)
          try simp only [Act.put, List.setIfInBounds_toArray, List.set_cons_zero, List.set_cons_succ]
          refine held_take 15 (.int .i64 s) rfl (by kernel_rfl) (by kernel_rfl) (by kernel_rfl) (fun _ _ _ h => h) (by rfl) (by intro w' hS; go_simp) (by assumption) ?_
          try simp only [Act.put, List.setIfInBounds_toArray, List.set_cons_zero, List.set_cons_succ]
          refine wpAnyH_done (by kernel_rfl) ?_ _
          have hrow2 := Lib.hid (row_kept hrow.out bq2.out)
          have hbr2 := Lib.hid (hbr.out.trans (bq2.out.mono hbr.out.size))
          go_wp2_with fail
          go_roundw
          case rel => exact ⟨s, ii + 1, by omega, by go_num, rfl, hst', hrow2, hbr2⟩
          case measure => (simp [intOf]; try omega)
        · obtain rfl : ii = m := by omega
          have hd2 := hd.out
          rw [List.take_of_length_le (by rw [RL.out]; omega), List.take_of_length_le (by rw [hxl.out]; omega)] at hd2
          have hst := HS.out
          rw [← hd2] at hst
          have HST := Lib.hid hst
          clear hst hd2
          obtain ⟨L0, hL0⟩ : ∃ L, ((backX ii n ws gs).take k).map (Value.int .i64) = L := ⟨_, rfl⟩
          have HL0 := Lib.hid hL0
          have hrowL := hrow.out
          rw [hL0] at hrowL
          have HROW := Lib.hid hrowL
          obtain ⟨s1, s2, s3, s4, s5, s6⟩ := snoc_of d HROW.out hbr.out (by omega)
          clear hL0 hrowL
          go_wp2_with (at_builtin; refine wpList_append_own _ rfl _ _ 35 rfl w.heap.size 2 i0 (.int .i64 0) 1 8 Try.underlying35 hi hz0 hz1 hz2 rfl (by decide) _ k _ rfl s1 ⟨_, 0, none⟩ 1 1 [.int .i64 d] rfl rfl s2 s3 s4 s5 s6 ?_)
          intro v' w5 hown hgrow hnil
          have hb5 := Lib.hid (snoc_below HROW.out hbr.out hgrow)
          rw [← HL0.out, ← snoc_int, ← HST.out] at hown
          have hown' := Lib.hid hown
          clear hown hgrow hnil s1 s2 s3 s4 s5 s6
          go_wp2_with fail
          go_roundw
          case rel => exact ⟨k + 1, by omega, by go_num, hown', hb5⟩
          case measure => (simp [intOf]; try omega)
    · obtain rfl : k = n := by omega
      rw [List.take_of_length_le (by rw [backX_length]; omega)] at hrow
      rcases Joins.ownsRow_forms hrow.out with ⟨e1, e2⟩ | ⟨g, c, e1⟩
      · subst e1
        subst e2
        go_wp2_with fail
        go_ret
        exact ⟨_, _, rfl, hrow.out, hbr.out⟩
      · subst e1
        go_wp2_with fail
        go_ret
        exact ⟨_, _, rfl, hrow.out, hbr.out⟩

set_option maxRecDepth 100000 in
set_option maxHeartbeats 4000000 in
theorem refbackw_any (m n gb gf gc xb xo xc : Nat) (gs xs : List Int) (w : World) (hG : IntsAt w (some ⟨gb, gf, none⟩) m gs) (hX : IntsAt w (some ⟨xb, xo, none⟩) n xs) (hm6 : m ≤ 1000) (hmn : m * n ≤ 1000) (hn6 : n ≤ 1000) :
    Calls Try.prog 18 #[.slice (some ⟨gb, gf, none⟩) m gc, .slice (some ⟨xb, xo, none⟩) n xc] w (NewI w (m * n) (backW gs xs)) := by
  have HG := Lib.hid (fun w1 (hb : Below w.heap.size w w1) => hG.kept hb)
  have HX := Lib.hid (fun w1 (hb : Below w.heap.size w w1) => hX.kept hb)
  have hgl := Lib.hid hG.1
  have hxl := Lib.hid hX.1
  have hGf := Lib.hid hG.2.2.1
  have hXf := Lib.hid hX.2.2.1
  clear hG hX
  go_enter Try.func18, Try.ntmps18
  go_wp2_with fail
  go_loopw [5, 6] (fun t i wr => ∃ k : Nat, k ≤ m ∧ i = .int .i64 k ∧ Hid (wr.ownsRow w.heap.size 2 1 t (k * n) (((backW gs xs).take (k * n)).map (Value.int .i64))) ∧ Hid (Below w.heap.size w wr)) (fun _ i _ => m - (intOf i).toNat)
  case atStart => exact ⟨0, Nat.zero_le _, rfl, Lib.hid (by rw [Nat.zero_mul, List.take_zero]; exact World.ownsRow_nil _ _ _ _), Lib.hid (Below.refl _ _)⟩
  case round =>
    obtain ⟨k, hk, rfl, hrow, hbr⟩ := hrel
    by_cases hlt : k < m
    · have hknb : k * n + n ≤ m * n := by have := Nat.mul_le_mul_right n hlt; rw [Nat.succ_mul] at this; exact this
      have HS := Lib.hid (fun j (hj : j < n) => (by
        have := backW_step (g := gs) (x := xs) (i := k) (j := j) (by rw [hgl.out]; exact hlt) (by rw [hxl.out]; exact hj)
        rw [hxl.out] at this
        exact this : (backW gs xs).take (k * n + j + 1) = (backW gs xs).take (k * n + j) ++ [mulF (gs.getD k 0) (xs.getD j 0)]))
      have hkn1 : (k + 1) * n = k * n + n := by rw [Nat.add_mul, Nat.one_mul]
      obtain ⟨kn, hkn⟩ : ∃ kn, k * n = kn := ⟨_, rfl⟩
      rw [hkn] at hknb hkn1 hrow
      simp only [hkn] at HS
      have HKN := Lib.hid hkn1
      clear hkn hkn1
      go_wp2_with fail
      go_loopw [5, 7] (fun t j wr => ∃ jj : Nat, jj ≤ n ∧ j = .int .i64 jj ∧ Hid (wr.ownsRow w.heap.size 2 1 t (kn + jj) (((backW gs xs).take (kn + jj)).map (Value.int .i64))) ∧ Hid (Below w.heap.size w wr)) (fun _ j _ => n - (intOf j).toNat)
      case atStart => exact ⟨0, Nat.zero_le _, rfl, hrow, hbr⟩
      case round =>
        clear hrow hbr
        obtain ⟨jj, hj, rfl, hrow, hbr⟩ := hrel
        by_cases hltj : jj < n
        · have hst := HS.out jj hltj
          obtain ⟨y1, y2⟩ := hGf.out.getD k
          obtain ⟨z1, z2⟩ := hXf.out.getD jj
          have CY := fun w1 (hb : Below w.heap.size w w1) => at_cell (HG.out w1 hb) hlt
          have CZ := fun w1 (hb : Below w.heap.size w w1) => at_cell (HX.out w1 hb) hltj
          obtain ⟨y, hy⟩ : ∃ y, gs.getD k 0 = y := ⟨_, rfl⟩
          obtain ⟨z, hz⟩ : ∃ z, xs.getD jj 0 = z := ⟨_, rfl⟩
          rw [hy] at hst y1 y2
          rw [hz] at hst z1 z2
          simp only [hy] at CY
          simp only [hz] at CZ
          have hcy := CY wr hbr.out
          have hcz := CZ wr hbr.out
          have SX := Lib.hid (fun w1 (hb : Below w.heap.size w w1) => And.intro (CY w1 hb) (CZ w1 hb))
          have hp12 := Lib.hid (mulF_bounds y z)
          have MM := fun w => refmul_any y z w y1 y2 z1 z2
          obtain ⟨p, hp⟩ : ∃ p, mulF y z = p := ⟨_, rfl⟩
          rw [hp] at hst hp12
          simp only [hp] at MM
          have M1 := Lib.hid MM
          have HST := Lib.hid hst
          clear MM hst hy hz hp y1 y2 z1 z2 CY CZ
          go_wp2_with fail
          have SK := Lib.hid (fun w' (hb : Below wr.heap.size wr w') => (show w'.cell? ⟨gb, gf + k, none⟩ = some (.int .i64 y) ∧ w'.cell? ⟨xb, xo + jj, none⟩ = some (.int .i64 z) from ⟨cell_later hb hcy, cell_later hb hcz⟩))
          have t1 := Lib.hid (show Below wr.heap.size wr wr.drew from (Below.refl _ _).drew)
          refine wp_region_held_drew (S := fun w' => w'.cell? ⟨gb, gf + k, none⟩ = some (.int .i64 y) ∧ w'.cell? ⟨xb, xo + jj, none⟩ = some (.int .i64 z)) (by kernel_rfl) (SK.out _ t1.out) (fun hHeld => ?_)
          refine held_take 0 (u5) rfl (by kernel_rfl) (by kernel_rfl) (by kernel_rfl) (fun _ _ _ h => h) (by rfl) (by intro w' hS; go_simp) (by assumption) ?_
          try simp only [Act.put, List.setIfInBounds_toArray, List.set_cons_zero, List.set_cons_succ]
          refine held_take 1 (.slice (some ⟨gb, gf, none⟩) m gc) rfl (by kernel_rfl) (by kernel_rfl) (by kernel_rfl) (fun _ _ _ h => h) (by rfl) (by intro w' hS; go_simp) (by assumption) ?_
          try simp only [Act.put, List.setIfInBounds_toArray, List.set_cons_zero, List.set_cons_succ]
          refine held_take 2 (.int .i64 k) rfl (by kernel_rfl) (by kernel_rfl) (by kernel_rfl) (fun _ _ _ h => h) (by rfl) (by intro w' hS; go_simp) (by assumption) ?_
          try simp only [Act.put, List.setIfInBounds_toArray, List.set_cons_zero, List.set_cons_succ]
          refine held_take 3 (.pointer (some ⟨gb, gf + k, none⟩)) rfl (by kernel_rfl) (by kernel_rfl) (by kernel_rfl) (fun _ _ _ h => h) (by rfl) (by intro w' hS; go_simp) (by assumption) ?_
          try simp only [Act.put, List.setIfInBounds_toArray, List.set_cons_zero, List.set_cons_succ]
          refine held_take 4 (.int .i64 y) rfl (by kernel_rfl) (by kernel_rfl) (by kernel_rfl) (fun _ _ _ h => h) (by rfl) (by intro w' hS; go_simp) (by assumption) ?_
          try simp only [Act.put, List.setIfInBounds_toArray, List.set_cons_zero, List.set_cons_succ]
          refine held_take 5 (.slice (some ⟨xb, xo, none⟩) n xc) rfl (by kernel_rfl) (by kernel_rfl) (by kernel_rfl) (fun _ _ _ h => h) (by rfl) (by intro w' hS; go_simp) (by assumption) ?_
          try simp only [Act.put, List.setIfInBounds_toArray, List.set_cons_zero, List.set_cons_succ]
          refine held_take 6 (.int .i64 jj) rfl (by kernel_rfl) (by kernel_rfl) (by kernel_rfl) (fun _ _ _ h => h) (by rfl) (by intro w' hS; go_simp) (by assumption) ?_
          try simp only [Act.put, List.setIfInBounds_toArray, List.set_cons_zero, List.set_cons_succ]
          refine held_take 7 (.pointer (some ⟨xb, xo + jj, none⟩)) rfl (by kernel_rfl) (by kernel_rfl) (by kernel_rfl) (fun _ _ _ h => h) (by rfl) (by intro w' hS; go_simp) (by assumption) ?_
          try simp only [Act.put, List.setIfInBounds_toArray, List.set_cons_zero, List.set_cons_succ]
          refine held_take 8 (.int .i64 z) rfl (by kernel_rfl) (by kernel_rfl) (by kernel_rfl) (fun _ _ _ h => h) (by rfl) (by intro w' hS; go_simp) (by assumption) ?_
          try simp only [Act.put, List.setIfInBounds_toArray, List.set_cons_zero, List.set_cons_succ]
          refine held_call 9 (by kernel_rfl) rfl (by rfl) (fun K hK => ?_)
          go_simp
          refine (M1.out wr.drew).mono ?_
          rintro e wq1 ⟨rfl, hb⟩
          have bq1 := Lib.hid (t1.out.trans ((hb).mono t1.out.size))
          go_wp2_with fail
          refine hK.out _ _ (SK.out _ bq1.out) (fun hHeld => ?_)
          try simp only [Act.put, List.setIfInBounds_toArray, List.set_cons_zero, List.set_cons_succ]
          refine held_call 10 (by kernel_rfl) rfl (by rfl) (fun K hK => ?_)
          go_simp
          have hnw := IntsAt.made wq1 2 [p] 1 rfl (by omega) (by intro n hn; rw [List.mem_singleton] at hn; subst hn; exact hp12.out)
          have hb : Below wq1.heap.size wq1 (wq1.alloc (.cells ([p].map (Value.int .i64)).toArray 2)) := (Below.refl _ _).alloc (Nat.le_refl _) _
          have nblk : Hid ((wq1.alloc (.cells ([p].map (Value.int .i64)).toArray 2)).heap.size = wq1.heap.size + 1) := Lib.hid (by simp)
          simp only [List.map_cons, List.map_nil] at hnw hb nblk
          obtain ⟨wq2, hnew⟩ : ∃ wn, wq1.alloc (.cells [Value.int .i64 p].toArray 2) = wn := ⟨_, rfl⟩
          rw [hnew] at hnw hb nblk ⊢
          clear hnew
          have bq2 := Lib.hid (bq1.out.trans (hb.mono bq1.out.size))
          refine hK.out _ _ (SK.out _ bq2.out) (fun hHeld => ?_)
          try simp only [Act.put, List.setIfInBounds_toArray, List.set_cons_zero, List.set_cons_succ]
          have hrowq := Lib.hid (row_kept hrow.out bq2.out)
          have hbq := Lib.hid (hbr.out.trans (bq2.out.mono hbr.out.size))
          refine held_call 11 (by kernel_rfl) rfl (by rfl) (fun K hK => ?_)
          refine wp_append_ints _ _ 35 2 rfl Try.underlying35 (by kernel_rfl) w.heap.size _ (kn + jj) ((backW gs xs).take (kn + jj)) rfl hrowq.out _ 1 1 [p] rfl hnw (fun e => by cases e) (by omega) hbq.out.size ?_
          rintro v5 w5 o5 g5 -
          rw [← HST.out] at o5
          have hb5 := Lib.hid (hbq.out.grown g5 hbq.out.size (fun q hq => (hrowq.out.lt q hq).1))
          have o5' := Lib.hid o5
          have SS5 := SX.out _ hb5.out
          clear o5 g5
          refine hK.out _ _ SS5 (fun hHeld => ?_)
          try simp only [Act.put, List.setIfInBounds_toArray, List.set_cons_zero, List.set_cons_succ]
          refine held_take 12 (v5) rfl (by kernel_rfl) (by kernel_rfl) (by kernel_rfl) (fun _ _ _ h => h) (by rfl) (by intro w' hS; go_simp) (by assumption) ?_
          try simp only [Act.put, List.setIfInBounds_toArray, List.set_cons_zero, List.set_cons_succ]
          refine wpAnyH_done (by kernel_rfl) ?_ _
          go_wp2_with fail
          go_roundw
          case rel => exact ⟨jj + 1, by omega, by go_num, o5', hb5⟩
          case measure => (simp [intOf]; try omega)
        · obtain rfl : jj = n := by omega
          rw [← HKN.out] at hrow
          go_wp2_with fail
          go_roundw
          case rel => exact ⟨k + 1, by omega, by go_num, hrow, hbr⟩
          case measure => (simp [intOf]; try omega)
    · obtain rfl : k = m := by omega
      rw [List.take_of_length_le (by rw [backW_length, hgl.out, hxl.out]; omega)] at hrow
      rcases Joins.ownsRow_forms hrow.out with ⟨e1, e2⟩ | ⟨g, c, e1⟩
      · subst e1
        have hz := Lib.hid e2
        clear e2
        go_wp2_with fail
        go_ret
        exact ⟨none, 0, by rw [hz.out]; rfl, by have := hrow.out; rw [hz.out] at this ⊢; exact this, hbr.out⟩
      · subst e1
        go_wp2_with fail
        go_ret
        exact ⟨_, _, rfl, hrow.out, hbr.out⟩
end Go.Proofs.Ytlpecdfiagklpaa
