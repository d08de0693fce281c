/-
  The contract of the reference's Next, at a place of a valid shape.
-/
import Derived.Test.YtieajkpjkhdjeaaNextMath
import Derived.Test.YtieajkpjkhdjeaaAtW
import Derived.Test.YtieajkpjkhdjeaaShapeCutsW
import Derived.Laws.CopyOwn
import Derived.Shelf.Spec.SlicesInsert
namespace Go.Proofs.Ytieajkpjkhdjeaa
open Go.RowKit
set_option linter.unusedVariables false
set_option linter.unusedSimpArgs false

theorem Has.ints {O : BSet} {W : World} {k : Nat} {zs : List Int} {t : TypeId} (h : Has O W k (zs.map (Value.int .i64)).toArray t) (j : Nat) (hj : j < zs.length) : W.cell? ⟨k, j, none⟩ = some (.int .i64 (zs.getD j 0)) := by
  rw [h.cell j]; simp [List.getD, List.getElem?_eq_getElem hj]
theorem Has.setI {O : BSet} {W : World} {k : Nat} {zs : List Int} {t : TypeId} (h : Has O W k (zs.map (Value.int .i64)).toArray t) (j : Nat) (v : Int) : Has O (W.setCell ⟨k, j, none⟩ (.int .i64 v)) k ((zs.set j v).map (Value.int .i64)).toArray t := by
  have := h.set j (.int .i64 v)
  simpa [List.map_set] using this

/-- Between two rounds of Next. -/
def NxL (zs : List Int) (p : Int) (l G : Nat) (w : World) (i : Value) (wr : World) : Prop :=
  ∃ k : Nat, k ≤ l ∧ i = .int .i64 ((k : Int) - 1) ∧ fullD (zs.drop k) p ∧ Has (fun _ => False) wr G ((outN (digs zs p) k).map (Value.int .i64)).toArray 3 ∧ Below w.heap.size w wr

set_option maxHeartbeats 4000000 in
theorem next_any (a1 : Option Addr) (l c1 : Nat) (zs : List Int) (a2 : Option Addr) (c2 : Nat) (p : Int) (w : World) (h : IntsAt w a1 l zs) (h' : IntsAt w a2 l (digs zs p)) (hr : rightS zs = true) :
    Calls Try.prog 31 #[.slice a1 l c1, .slice a2 l c2] w (NewInts w l (digs zs (p + 1))) := by
  have hl4 : l ≤ 4 := by have := (rightS_parts hr).2.1; have := h.1; omega
  have hl1 : 1 ≤ l := by have := (rightS_parts hr).1; have := h.1; omega
  have hlen := h.1
  have R := (rightS_parts hr).2.2.1
  have hmk := int_made 22 Try.underlying22 l (by omega)
  obtain ⟨b, off, rfl, hcz⟩ : ∃ b off, a1 = some ⟨b, off, none⟩ ∧ ∀ j, j < l → w.cell? ⟨b, off + j, none⟩ = some (.int .i64 (zs.getD j 0)) := by
    rcases h.2.2.2 with h4 | ⟨b, off, ha, hc⟩
    · omega
    · exact ⟨b, off, ha, hc⟩
  obtain ⟨b', off', rfl, hcy⟩ : ∃ b off, a2 = some ⟨b, off, none⟩ ∧ ∀ j, j < l → w.cell? ⟨b, off + j, none⟩ = some (.int .i64 ((digs zs p).getD j 0)) := by
    rcases h'.2.2.2 with h4 | ⟨b, off, ha, hc⟩
    · omega
    · exact ⟨b, off, ha, hc⟩
  have hbw : b < w.heap.size := World.block_lt_of_cell? w _ (hcz 0 (by omega))
  have z1 : Below w.heap.size w (w.alloc (.cells (madeCells #[.int .i64 0] l) 3)) := (Below.refl _ _).alloc (Nat.le_refl _) _
  have hsrc : ∀ j v, ((digs zs p).map (Value.int .i64))[j]? = some v → (w.alloc (.cells (madeCells #[.int .i64 0] l) 3)).cell? ((⟨b', off', none⟩ : Addr).add j) = some v := by
    intro j v hj
    have hjl := (List.getElem?_eq_some_iff.1 hj).1
    rw [List.length_map, digs_length, hlen] at hjl
    rw [Addr.add_lit, cell_later z1 (hcy j hjl), ← hj]
    simp [List.getD, List.getElem?_eq_getElem (show j < (digs zs p).length by rw [digs_length]; omega)]
  have hnew := World.alloc_heap_new w (.cells (madeCells #[.int .i64 0] l) 3)
  have hdl : ((digs zs p).map (Value.int .i64)).length = l := by rw [List.length_map, digs_length, hlen]
  have hmin : ((digs zs p).map (Value.int .i64)).length = Nat.min l l := by rw [hdl]; simp
  have hfit : 0 + ((digs zs p).map (Value.int .i64)).length ≤ (madeCells #[.int .i64 0] l).size := by rw [hdl, made_zeros]; simp
  have hrow : ((madeCells #[.int .i64 0] l).toList.take 0 ++ (digs zs p).map (Value.int .i64) ++ (madeCells #[.int .i64 0] l).toList.drop (0 + ((digs zs p).map (Value.int .i64)).length)).toArray = ((digs zs p).map (Value.int .i64)).toArray := by
    rw [List.take_zero, List.nil_append, List.drop_of_length_le (by rw [hdl, made_zeros]; simp), List.append_nil]
  have hrun := run_copy_row (P := Try.prog) (w.alloc (.cells (madeCells #[.int .i64 0] l) 3)) 22 22 3 3 w.heap.size 0 l l ⟨b', off', none⟩ l c2 (madeCells #[.int .i64 0] l) 3 ((digs zs p).map (Value.int .i64)) Try.underlying22 (by kernel_rfl) hnew hmin hsrc hfit
    (by intro u hu; obtain ⟨x, _, rfl⟩ := List.mem_map.1 hu; rfl)
  rw [hrow] at hrun
  obtain ⟨w2, hw2⟩ : ∃ w2, (w.alloc (.cells (madeCells #[.int .i64 0] l) 3)).setRow w.heap.size ((digs zs p).map (Value.int .i64)).toArray = w2 := ⟨_, rfl⟩
  rw [hw2] at hrun
  have i2 : Has (fun _ => False) w2 w.heap.size ((digs zs p).map (Value.int .i64)).toArray 3 := ⟨fun h => h, by rw [← hw2]; exact setRow_heap _ _ _ _ _ _ hnew⟩
  have z2 : Below w.heap.size w w2 := by rw [← hw2]; exact below_setRow z1 (Nat.le_refl _) _
  obtain ⟨G, hG⟩ : ∃ G, w.heap.size = G := ⟨_, rfl⟩
  have start : NxL zs p l G w (.int .i64 ((l : Int) - 1)) w2 := ⟨l, Nat.le_refl _, rfl, by rw [List.drop_of_length_le (by omega)]; exact fullD_nil p, by
    have e : outN (digs zs p) l = digs zs p := by rw [show l = (digs zs p).length by rw [digs_length, hlen]]; exact outN_full _
    rw [e, ← hG]; exact i2, z2⟩
  have ST := Lib.hid start
  have HL := Lib.hid hlen
  have HR := Lib.hid R
  have HCZ := Lib.hid (fun wr (hb : Below w.heap.size w wr) j (hj : j < l) => cell_later hb (hcz j hj))
  have HGE := Lib.hid hG
  have RUN := Lib.hid hrun
  rw [hG] at hbw
  clear start i2 z2 hrow hfit hmin hdl hnew hsrc z1 hcy hcz R hr h h' hlen hw2 hrun hG
  go_enter Try.func31, Try.ntmps31
  go_wp2_with fail
  have hr2 := RUN.out
  rw [HGE.out] at hr2
  simp only [HGE.out]
  rw [hr2]
  clear hr2
  go_wp2_with fail
  go_loopw [6] (fun i wr => NxL zs p l G w i wr) (fun i _ => (intOf i + 1).toNat)
  case atStart => exact ST.out
  case round =>
    obtain ⟨k, hk, rfl, hf, hh, hb⟩ := hrel
    cases k with
    | zero =>
      have e : outN (digs zs p) 0 = digs zs (p + 1) := next_end zs HR.out p (by simpa using hf)
      rw [e] at hh
      have fin : NewInts w l (digs zs (p + 1)) (.returned (.slice (some ⟨G, 0, none⟩) l l)) wr := ⟨_, _, rfl, hh.row (by rw [HGE.out]; exact Nat.le_refl _) (by rw [digs_length, HL.out]) (by unfold maxLen; omega), hb⟩
      have F := Lib.hid fin
      clear e hh fin hf
      go_wp2_with fail
      go_ret
      exact F.out
    | succ m =>
      have e : ((m + 1 : Nat) : Int) - 1 = (m : Int) := by omega
      rw [e]
      clear e
      have hm : m < l := by omega
      have hmz : m < zs.length := by rw [HL.out]; exact hm
      have hmd : m < (digs zs p).length := by rw [digs_length]; exact hmz
      have hml : m < (outN (digs zs p) (m + 1)).length := by rw [outN_length _ _ (by omega)]; exact hmd
      have e1 := hh.ints m hml
      rw [outN_at _ _ hmd] at e1
      have f1 := hh.frozen m
      obtain ⟨d0, d1⟩ := digs_at_lt zs HR.out p m hmz
      obtain ⟨x1, x2⟩ := allR_getD HR.out m hmz
      have c1 := HCZ.out wr hb m hm
      obtain ⟨d, hd⟩ : ∃ d, (digs zs p).getD m 0 = d := ⟨_, rfl⟩
      obtain ⟨x, hx⟩ : ∃ x, zs.getD m 0 = x := ⟨_, rfl⟩
      rw [hd] at e1 d0 d1
      rw [hx] at c1 d1 x1 x2
      have h2 := hh.setI m (d + 1)
      have b2 : Below w.heap.size w (wr.setCell ⟨G, m, none⟩ (.int .i64 (d + 1))) := hb.setCell (p := ⟨G, m, none⟩) (by rw [HGE.out]; exact Nat.le_refl _) _
      have c2' := HCZ.out _ b2 m hm
      rw [hx] at c2'
      have e2 : (wr.setCell ⟨G, m, none⟩ (.int .i64 (d + 1))).cell? ⟨G, m, none⟩ = some (.int .i64 (d + 1)) := by
        have := h2.ints m (by rw [List.length_set]; exact hml)
        rw [set_self _ _ _ hml] at this
        exact this
      have f2 := h2.frozen m
      have HH2 := Lib.hid h2
      have HB2 := Lib.hid b2
      have HD := Lib.hid hd
      have HX := Lib.hid hx
      have HF := Lib.hid hf
      obtain ⟨wS, hwS⟩ : ∃ wS, wr.setCell ⟨G, m, none⟩ (.int .i64 (d + 1)) = wS := ⟨_, rfl⟩
      rw [hwS] at c2' e2 f2 HH2 HB2
      clear hh hb hf h2 b2 hd hx
      have HM := Lib.hid (And.intro hmz (And.intro hmd hml))
      clear hmz hmd hml
      have HWS := Lib.hid hwS
      clear hwS
      by_cases hlt : d + 1 < x
      · have fin : ∀ q, NewInts w l (digs zs (p + 1)) (.returned (.slice (some ⟨G, 0, none⟩) l l)) (wS.drewN q) := by
          intro q
          have hn := next_list zs HR.out m HM.out.1 p HF.out (by rw [HD.out, HX.out]; exact hlt)
          rw [HD.out] at hn
          have h3 := HH2.out
          rw [hn] at h3
          exact ⟨_, _, rfl, (show Has (fun _ => False) (wS.drewN q) G _ _ from h3).row (by rw [HGE.out]; exact Nat.le_refl _) (by rw [digs_length, HL.out]) (by unfold maxLen; omega), below_drewN' HB2.out q⟩
        have F := Lib.hid fin
        have g1 : decide (d + 1 < x) = true := decide_eq_true hlt
        clear fin
        go_wp2_with fail
        simp only [HWS.out]
        go_quiet (fail)
        go_wp2_with fail
        go_ret
        exact F.out _
      · have nxt : ∀ q, NxL zs p l G w (.int .i64 ((m : Int) - 1)) ((wS.drewN q).setCell ⟨G, m, none⟩ (.int .i64 0)) := by
          intro q
          refine ⟨m, by omega, rfl, full_step zs HR.out m HM.out.1 p HF.out (by rw [HD.out, HX.out]; exact hlt), ?_, (below_drewN' HB2.out q).setCell (p := ⟨G, m, none⟩) (by rw [HGE.out]; exact Nat.le_refl _) _⟩
          have h3 := Has.setI (show Has (fun _ => False) (wS.drewN q) G _ _ from HH2.out) m 0
          rw [List.set_set, outN_set _ _ HM.out.2.1, outN_zero _ _ HM.out.2.1] at h3
          exact h3
        have NX := Lib.hid nxt
        have g1 : decide (d + 1 < x) = false := decide_eq_false hlt
        clear nxt
        go_wp2_with fail
        simp only [HWS.out]
        go_quiet (fail)
        go_wp2_with fail
        go_roundw
        case rel => exact NX.out _
        case measure => (simp [intOf]; try omega)
end Go.Proofs.Ytieajkpjkhdjeaa
