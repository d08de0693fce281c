import Derived.Test.YtapelgjnnccfoaaJ00
import Derived.Test.YtapelgjnnccfoaaJ01
import Derived.Deep.DeepCutAuto
import Derived.Deep.CutBlock
import Derived.Deep.RegionWith
/-
  Contracts of package conv: fit, Shape.
-/
namespace Go.Proofs.Ytapelgjnnccfoaa
open Go.RowKit
set_option linter.unusedVariables false
set_option linter.unusedSimpArgs false

theorem ints_cell {w : World} {a : Option Addr} {n : Nat} {zs : List Int} (h : IntsAt w a n zs) (hn : 0 < n) : ∃ b off, a = some ⟨b, off, none⟩ ∧ ∀ j, j < n → w.cell? ⟨b, off + j, none⟩ = some (.int .i64 (zs.getD j 0)) := by
  rcases h.2.2.2 with h4 | h4
  · omega
  · exact h4

set_option maxRecDepth 100000 in
set_option maxHeartbeats 2000000 in
theorem convfit_any (a1 : Option Addr) (l1 c1 : Nat) (ws : List Int) (a2 : Option Addr) (l2 c2 : Nat) (xs : List Int) (w : World) (h : IntsAt w a1 l1 ws) (h' : IntsAt w a2 l2 xs) :
    Calls Try.prog 27 #[.slice a1 l1 c1, .slice a2 l2 c2] w fun e w' => e = .returned (.bool (formOk ws xs)) ∧ Below w.heap.size w w' := by
  have C := rightM_any a1 l1 c1 ws w h
  have D := fun w1 (hb : Below w.heap.size w w1) => rightM_any a2 l2 c2 xs w1 (h'.kept hb)
  have hl1 := h.1
  have hl2 := h'.1
  have q1 := h.2.1
  have q2 := h'.2.1
  have E : Hid (formOk ws xs = _) := Lib.hid (formOk_eq ws xs)
  rw [hl1, hl2] at E
  have K1 := Lib.hid (fun (hp : 0 < l1) w1 (hb : Below w.heap.size w w1) => ints_cell (h.kept hb) hp)
  have K2 := Lib.hid (fun (hp : 0 < l2) w1 (hb : Below w.heap.size w w1) => ints_cell (h'.kept hb) hp)
  clear h h'
  cases b1 : rightS ws
  · rw [b1] at C E
    have C1 := Lib.hid C
    clear C D b1
    go_enter Try.func27, Try.ntmps27
    go_wp2_with fail
    refine C1.out.mono ?_
    rintro e w1 ⟨rfl, hb⟩
    go_wp2_with fail
    go_ret
    exact ⟨ret_bool (by rw [E.out]; rfl), hb⟩
  cases b2 : rightS xs
  · rw [b1] at C E
    rw [b2] at E
    simp only [b2] at D
    have C1 := Lib.hid C
    have D1 := Lib.hid D
    clear C D b1 b2
    go_enter Try.func27, Try.ntmps27
    go_wp2_with fail
    refine C1.out.mono ?_
    rintro e w1 ⟨rfl, hb⟩
    go_wp2_with fail
    refine (D1.out w1 hb).mono ?_
    rintro e w2 ⟨rfl, hb2⟩
    go_wp2_with fail
    go_ret
    exact ⟨ret_bool (by rw [E.out]; rfl), hb.trans (hb2.mono hb.size)⟩
  have h4 : l2 ≤ 4 := by have := (rightS_parts b2).2.1; omega
  rw [b1] at C E
  rw [b2] at E
  simp only [b2] at D
  have C1 := Lib.hid C
  have D1 := Lib.hid D
  clear C D b1 b2 hl1 hl2
  by_cases e1 : l1 = l2 + 1
  · rcases (show l2 = 2 ∨ l2 = 3 ∨ ¬ (l2 = 2 ∨ l2 = 3) by omega) with rfl | rfl | e2
    · obtain rfl : l1 = 3 := e1
      have FIN : Hid (∀ (x y : Int), ws.getD 1 0 = x → xs.getD 0 0 = y → (x == y) = formOk ws xs) := Lib.hid (by
        intro x y hx hy
        rw [E.out, hx, hy]
        by_cases c : x = y <;> simp [c])
      clear E
      go_enter Try.func27, Try.ntmps27
      go_wp2_with fail
      refine C1.out.mono ?_
      rintro e w1 ⟨rfl, hb⟩
      go_wp2_with fail
      refine (D1.out w1 hb).mono ?_
      rintro e w2 ⟨rfl, hb2⟩
      have hb3 := hb.trans (hb2.mono hb.size)
      obtain ⟨b, off, rfl, hc⟩ := K1.out (by omega) w2 hb3
      obtain ⟨b', off', rfl, hc'⟩ := K2.out (by omega) w2 hb3
      have k1 := hc 1 (by omega)
      have k2 := hc' 0 (by omega)
      rw [Nat.add_zero] at k2
      have HB := Lib.hid hb3
      obtain ⟨x, hx⟩ : ∃ x, ws.getD 1 0 = x := ⟨_, rfl⟩
      obtain ⟨y, hy⟩ : ∃ y, xs.getD 0 0 = y := ⟨_, rfl⟩
      rw [hx] at k1
      rw [hy] at k2
      have F := Lib.hid (FIN.out x y hx hy)
      clear hc hc' hb hb2 hb3 hx hy FIN K1 K2 C1 D1
      go_wp2_with fail
      go_quiet (fail)
      go_wp2_with fail
      go_ret
      exact ⟨ret_bool F.out, below_drewN' HB.out _⟩
    · obtain rfl : l1 = 4 := e1
      have FIN : Hid (∀ (x y : Int), ws.getD 1 0 = x → xs.getD 0 0 = y → (x == y) = formOk ws xs) := Lib.hid (by
        intro x y hx hy
        rw [E.out, hx, hy]
        by_cases c : x = y <;> simp [c])
      clear E
      go_enter Try.func27, Try.ntmps27
      go_wp2_with fail
      refine C1.out.mono ?_
      rintro e w1 ⟨rfl, hb⟩
      go_wp2_with fail
      refine (D1.out w1 hb).mono ?_
      rintro e w2 ⟨rfl, hb2⟩
      have hb3 := hb.trans (hb2.mono hb.size)
      obtain ⟨b, off, rfl, hc⟩ := K1.out (by omega) w2 hb3
      obtain ⟨b', off', rfl, hc'⟩ := K2.out (by omega) w2 hb3
      have k1 := hc 1 (by omega)
      have k2 := hc' 0 (by omega)
      rw [Nat.add_zero] at k2
      have HB := Lib.hid hb3
      obtain ⟨x, hx⟩ : ∃ x, ws.getD 1 0 = x := ⟨_, rfl⟩
      obtain ⟨y, hy⟩ : ∃ y, xs.getD 0 0 = y := ⟨_, rfl⟩
      rw [hx] at k1
      rw [hy] at k2
      have F := Lib.hid (FIN.out x y hx hy)
      clear hc hc' hb hb2 hb3 hx hy FIN K1 K2 C1 D1
      go_wp2_with fail
      go_quiet (fail)
      go_wp2_with fail
      go_ret
      exact ⟨ret_bool F.out, below_drewN' HB.out _⟩
    · have E' : Hid (false = formOk ws xs) := Lib.hid (by rw [E.out, decide_eq_false e2]; simp)
      have e3 : ¬ (l2 : Int) = 2 := by omega
      have e4 : ¬ (l2 : Int) = 3 := by omega
      subst e1
      clear E K1 K2 e2
      go_enter Try.func27, Try.ntmps27
      go_wp2_with fail
      refine C1.out.mono ?_
      rintro e w1 ⟨rfl, hb⟩
      go_wp2_with fail
      refine (D1.out w1 hb).mono ?_
      rintro e w2 ⟨rfl, hb2⟩
      go_wp2_with fail
      go_quiet (fail)
      go_wp2_with fail
      go_ret
      exact ⟨ret_bool E'.out, below_drewN' (hb.trans (hb2.mono hb.size)) _⟩
  · have e1' : ¬ (l1 : Int) = (l2 : Int) + 1 := by omega
    have E' : Hid (false = formOk ws xs) := Lib.hid (by rw [E.out, decide_eq_false e1]; simp)
    clear E K1 K2
    go_enter Try.func27, Try.ntmps27
    go_wp2_with fail
    refine C1.out.mono ?_
    rintro e w1 ⟨rfl, hb⟩
    go_wp2_with fail
    refine (D1.out w1 hb).mono ?_
    rintro e w2 ⟨rfl, hb2⟩
    go_wp2_with fail
    go_ret
    exact ⟨ret_bool E'.out, hb.trans (hb2.mono hb.size)⟩
end Go.Proofs.Ytapelgjnnccfoaa

/-
  The contract of package conv's Shape.
-/
namespace Go.Proofs.Ytapelgjnnccfoaa
open Go.RowKit
set_option linter.unusedVariables false
set_option linter.unusedSimpArgs false

/-- A new row of these integers. -/
theorem row_new (w : World) (t : TypeId) (zs : List Int) (n : Nat) (hn : zs.length = n) (hm : n ≤ 1000000) : (w.alloc (.cells (zs.map (Value.int .i64)).toArray t)).ownsRow w.heap.size t 1 (.slice (some ⟨w.heap.size, 0, none⟩) n n) n (zs.map (Value.int .i64)) :=
  ⟨by simp [hn], .inr ⟨_, n, _, rfl, Nat.le_refl _, World.alloc_heap_new w _, Nat.le_refl _, by unfold maxLen; omega, by simp [hn], by rw [List.take_of_length_le (by simp [hn])]⟩⟩

set_option maxHeartbeats 1000000 in
theorem convshape_form (a1 : Option Addr) (l1 c1 : Nat) (ws : List Int) (a2 : Option Addr) (l2 c2 : Nat) (xs : List Int) (s : Int) (w : World) (h : IntsAt w a1 l1 ws) (h' : IntsAt w a2 l2 xs) (hf : formOk ws xs = false) :
    Calls Try.prog 10 #[.slice a1 l1 c1, .slice a2 l2 c2, .int .i64 s] w (NilE w 20) := by
  have C := convfit_any a1 l1 c1 ws a2 l2 c2 xs w h h'
  rw [hf] at C
  have C1 := Lib.hid C
  clear C h h' hf
  go_enter Try.func10, Try.ntmps10
  go_wp2_with fail
  refine C1.out.mono ?_
  rintro e w1 ⟨rfl, hb⟩
  go_wp2_with fail
  go_ret2
  exact ⟨rfl, hb⟩

/-- What Shape answers, its arguments being of the right form. -/
def ShapeR (w : World) (ws xs : List Int) (s : Int) (e : Ending) (w' : World) : Prop := (toldE ws xs s = 0 → NewE w xs.length (outS ws xs s) e w') ∧ (toldE ws xs s ≠ 0 → NilE w (toldE ws xs s) e w')
theorem ShapeR.err {w : World} {ws xs : List Int} {s x : Int} {e : Ending} {w' : World} (h : toldE ws xs s = x) (hx : x ≠ 0) (hn : NilE w x e w') : ShapeR w ws xs s e w' := ⟨fun h0 => absurd (h.symm.trans h0) hx, fun _ => h ▸ hn⟩
theorem ShapeR.ok {w : World} {ws xs : List Int} {s : Int} {e : Ending} {w' : World} (h : toldE ws xs s = 0) (hn : NewE w xs.length (outS ws xs s) e w') : ShapeR w ws xs s e w' := ⟨fun _ => hn, fun h0 => absurd h h0⟩

set_option maxRecDepth 100000 in
set_option maxHeartbeats 4000000 in
theorem convshape_2 (a1 : Option Addr) (c1 : Nat) (ws : List Int) (a2 : Option Addr) (c2 : Nat) (xs : List Int) (s : Int) (w : World) (h : IntsAt w a1 3 ws) (h' : IntsAt w a2 2 xs) (hc1 : 3 ≤ c1) (hc2 : 2 ≤ c2) (m1 : c1 ≤ 9223372036854775807) (m2 : c2 ≤ 9223372036854775807) (hs1 : -9223372036854775808 ≤ s) (hs2 : s ≤ 9223372036854775807) (hf : formOk ws xs = true) :
    Calls Try.prog 10 #[.slice a1 3 c1, .slice a2 2 c2, .int .i64 s] w (ShapeR w ws xs s) := by
  have C := convfit_any a1 3 c1 ws a2 2 c2 xs w h h'
  rw [hf] at C
  have C1 := Lib.hid C
  have HF := Lib.hid hf
  have HL := Lib.hid h'.1
  obtain ⟨b, off, rfl, hc⟩ := ints_cell h (by omega)
  obtain ⟨b', off', rfl, hc'⟩ := ints_cell h' (by omega)
  obtain ⟨o, ho⟩ : ∃ o, ws.getD 0 0 = o := ⟨_, rfl⟩
  have d1 : ¬ c1 = 2 := by omega
  have d2 : ¬ c2 = 1 := by omega
  have KW := Lib.hid (fun w1 (hb : Below w.heap.size w w1) j (hj : j < 3) => cell_later hb (hc j hj))
  have KX := Lib.hid (fun w1 (hb : Below w.heap.size w w1) j (hj : j < 2) => cell_later hb (hc' j hj))
  have hst : (outS ws xs s).take 1 = [o] := by rw [outS_start hf, ho]
  have HST := Lib.hid hst
  have HO := Lib.hid ho
  have HOUT := Lib.hid (outS_length (s := s) hf)
  have hff := Lib.hid (outS_fits (s := s) hf)
  clear C h h' hf hc hc' hst ho
  go_enter Try.func10, Try.ntmps10
  go_wp2_with fail
  refine C1.out.mono ?_
  rintro e w1 ⟨rfl, hb1⟩
  have B1 := Lib.hid hb1
  have KO := Lib.hid (fun w' (hb : Below w1.heap.size w1 w') => (show w'.cell? ⟨b, off, none⟩ = some (.int .i64 o) from by
    have := KW.out w' (B1.out.trans (hb.mono B1.out.size)) 0 (by omega)
    rwa [Nat.add_zero, HO.out] at this))
  clear hb1 C1
  go_upto_region 3 with (fail)
  have SK := Lib.hid (fun w' (hb : Below w1.heap.size w1 w') => (show w'.cell? ⟨b, off, none⟩ = some (.int .i64 o) from KO.out w' hb))
  have t1 := Lib.hid (show Below w1.heap.size w1 w1.drew from (Below.refl _ _).drew)
  refine wp_region_held_drew (S := fun w' => w'.cell? ⟨b, off, none⟩ = some (.int .i64 o)) (by kernel_rfl) (SK.out _ t1.out) (fun hHeld => ?_)
  refine held_take 0 (.slice (some ⟨b, off, none⟩) 3 c1) rfl (by kernel_rfl) (by kernel_rfl) (by kernel_rfl) (fun _ _ _ h => h) (by rfl) (by intro w' hS; go_simp) (by assumption) ?_
  try simp only [Act.put, List.setIfInBounds_toArray, List.set_cons_zero, List.set_cons_succ]
  refine held_take 1 (.pointer (some ⟨b, off, none⟩)) rfl (by kernel_rfl) (by kernel_rfl) (by kernel_rfl) (fun _ _ _ h => h) (by rfl) (by intro w' hS; go_simp) (by assumption) ?_
  try simp only [Act.put, List.setIfInBounds_toArray, List.set_cons_zero, List.set_cons_succ]
  refine held_take 2 (.int .i64 o) rfl (by kernel_rfl) (by kernel_rfl) (by kernel_rfl) (fun _ _ _ h => h) (by rfl) (by intro w' hS; go_simp) (by assumption) ?_
  try simp only [Act.put, List.setIfInBounds_toArray, List.set_cons_zero, List.set_cons_succ]
  refine held_take 4 (.slice (some ⟨b, off, none⟩) 3 c1) rfl (by kernel_rfl) (by kernel_rfl) (by kernel_rfl) (fun _ _ _ h => h) (by rfl) (by intro w' hS; go_simp) (by assumption) ?_
  try simp only [Act.put, List.setIfInBounds_toArray, List.set_cons_zero, List.set_cons_succ]
  refine held_take 5 (.slice (some ⟨b, off + 2, none⟩) 1 (c1 - 2)) rfl (by kernel_rfl) (by kernel_rfl) (by kernel_rfl) (fun _ _ _ h => h) (by rfl) (by intro w' hS; go_simp) (by assumption) ?_
  try simp only [Act.put, List.setIfInBounds_toArray, List.set_cons_zero, List.set_cons_succ]
  refine held_call 3 (by kernel_rfl) rfl (by rfl) (fun K hK => ?_)
  go_simp
  have hr1 := row_new w1 3 [o] 1 rfl (by omega)
  have hb : Below w1.heap.size w1 (w1.alloc (.cells ([o].map (Value.int .i64)).toArray 3)).drew := ((Below.refl _ _).alloc (Nat.le_refl _) _).drew
  have hr2 : (w1.alloc (.cells ([o].map (Value.int .i64)).toArray 3)).drew.ownsRow w1.heap.size 3 1 (.slice (some ⟨w1.heap.size, 0, none⟩) 1 1) 1 ([o].map (Value.int .i64)) := hr1
  simp only [List.map_cons, List.map_nil] at hr2 hb
  clear hr1
  obtain ⟨w2, hnew⟩ : ∃ wn, (w1.alloc (.cells [Value.int .i64 o].toArray 3)).drew = wn := ⟨_, rfl⟩
  rw [hnew] at hr2 hb ⊢
  clear hnew
  have HR2 := Lib.hid hr2
  clear hr2
  have bq1 := Lib.hid hb
  clear hb
  refine hK.out _ _ (SK.out _ bq1.out) (fun hHeld => ?_)
  try simp only [Act.put, List.setIfInBounds_toArray, List.set_cons_zero, List.set_cons_succ]
  refine held_take 6 (.slice (some ⟨w1.heap.size, 0, none⟩) 1 1) rfl (by kernel_rfl) (by kernel_rfl) (by kernel_rfl) (fun _ _ _ h => h) (by rfl) (by intro w' hS; go_simp) (by assumption) ?_
  try simp only [Act.put, List.setIfInBounds_toArray, List.set_cons_zero, List.set_cons_succ]
  refine held_take 7 (.slice (some ⟨b, off + 2, none⟩) 1 (c1 - 2)) rfl (by kernel_rfl) (by kernel_rfl) (by kernel_rfl) (fun _ _ _ h => h) (by rfl) (by intro w' hS; go_simp) (by assumption) ?_
  try simp only [Act.put, List.setIfInBounds_toArray, List.set_cons_zero, List.set_cons_succ]
  refine wpAnyH_done (by kernel_rfl) ?_ _
  have B2 := Lib.hid (B1.out.trans (bq1.out.mono B1.out.size))
  have HR3 := Lib.hid (show Hid _ from HR2)
  clear hHeld
  go_wp2_with fail
  obtain ⟨i0, hi, hz0, hz1, hz2⟩ := info_parts intInfo
  go_loopw [8, 27] (fun t i wr => ∃ j : Nat, j + 1 ≤ 2 ∧ i = .int .i64 j ∧ Hid (wr.ownsRow w1.heap.size 3 1 t (j + 1) (((outS ws xs s).take (j + 1)).map (Value.int .i64))) ∧ Hid (Below w1.heap.size w1 wr) ∧ Hid (∀ q, q < j → winE (xs.getD (q + 1) 0) (ws.getD (q + 2) 0) s = 0)) (fun _ i _ => 2 - (intOf i).toNat)
  case atStart => exact ⟨0, by omega, rfl, Lib.hid (by rw [HST.out]; exact HR2.out), bq1, Lib.hid (fun q hq => by omega)⟩
  case round =>
    obtain ⟨j, hj, rfl, hrow, hbr, hall⟩ := hrel
    by_cases hlt : j + 1 < 2
    · have hlt' : j < 1 := by omega
      have BW := Lib.hid (B1.out.trans (hbr.out.mono B1.out.size))
      have k1 := KW.out wr BW.out (j + 2) (by omega)
      have k2 := KX.out wr BW.out (j + 1) (by omega)
      rw [show off + (j + 2) = off + 2 + j by omega] at k1
      rw [show off' + (j + 1) = off' + 1 + j by omega] at k2
      have W := Lib.hid (window_any (xs.getD (j + 1) 0) (ws.getD (j + 2) 0) s)
      have SE := Lib.hid (winE_or (xs.getD (j + 1) 0) (ws.getD (j + 2) 0) s)
      have ST := Lib.hid (outS_step (s := s) HF.out (j := j) (by rw [HL.out]; omega))
      have NB := Lib.hid (winN_bounds (xs.getD (j + 1) 0) (ws.getD (j + 2) 0) s)
      have ER := Lib.hid (told_win (s := s) HF.out (j := j) (by rw [HL.out]; omega))
      have GO := Lib.hid (fun (he : winE (xs.getD (j + 1) 0) (ws.getD (j + 2) 0) s = 0) q (hq : q < j + 1) => (show winE (xs.getD (q + 1) 0) (ws.getD (q + 2) 0) s = 0 from by
        by_cases c : q = j
        · rw [c]; exact he
        · exact hall.out q (by omega)))
      obtain ⟨u, hu⟩ : ∃ u, winE (xs.getD (j + 1) 0) (ws.getD (j + 2) 0) s = u := ⟨_, rfl⟩
      obtain ⟨v, hv⟩ : ∃ v, winN (xs.getD (j + 1) 0) (ws.getD (j + 2) 0) s = v := ⟨_, rfl⟩
      rw [hu] at SE ER GO
      rw [hv] at ST NB
      simp only [hu, hv] at W
      clear hu hv
      rcases SE.out with rfl | rfl
      · have GO' := Lib.hid (GO.out rfl)
        obtain ⟨L0, hL0⟩ : ∃ L, ((outS ws xs s).take (j + 1)).map (Value.int .i64) = L := ⟨_, rfl⟩
        have hrw := hrow.out.alloc (.cells #[.int .i64 v] 3)
        rw [hL0] at hrw
        have HL0 := Lib.hid hL0
        have hnew := box_cell wr v 3
        have hone : ∀ u ∈ [Value.int .i64 v], u.oneCell' = true := by intro u hu; simp at hu; subst hu; rfl
        have hb6 : j + 1 + 1 ≤ maxLen := by unfold maxLen; omega
        have hb7 : (j + 1 + 1) * 8 ≤ 140737488355328 := by omega
        have hb8 : w1.heap.size ≤ (wr.alloc (.cells #[.int .i64 v] 3)).heap.size := by have := hbr.out.size; simp; omega
        clear hL0 GO SE ER
        go_wp2_with fail
        refine (W.out wr).mono ?_
        rintro e wv ⟨rfl, rfl⟩
        go_wp2_with (at_builtin; refine wpList_append_own _ rfl _ _ 23 rfl w1.heap.size 3 i0 (.int .i64 0) 1 8 Try.underlying23 hi hz0 hz1 hz2 rfl (by decide) _ (j + 1) _ rfl hrw ⟨wr.heap.size, 0, none⟩ 1 1 [.int .i64 v] rfl rfl hnew hone hb6 hb7 hb8 ?_)
        intro v' w5 hown hgrow hnil
        rw [← HL0.out, ← snoc_int, ← ST.out] at hown
        have hown' := Lib.hid hown
        have hb5 := Lib.hid ((hbr.out.alloc hbr.out.size (.cells #[.int .i64 v] 3)).grown hgrow hb8 (fun q' hq' => (hrow.out.lt q' hq').1))
        clear hown hgrow hnil k1 k2 hnew hone hb6 hb7 hb8 hrw
        go_wp2_with fail
        go_roundw
        case rel => exact ⟨j + 1, by omega, by go_num, hown', hb5, GO'⟩
        case measure => (simp [intOf]; try omega)
      · have ER' := Lib.hid (ER.out rfl)
        clear GO SE ER
        go_wp2_with fail
        refine (W.out wr).mono ?_
        rintro e wv ⟨rfl, rfl⟩
        go_wp2_with fail
        go_ret2
        exact ShapeR.err ER'.out (by omega) ⟨rfl, BW.out⟩
    · obtain rfl : j = 1 := by omega
      have HWI := Lib.hid (wins_yes (s := s) HF.out (fun q hq => hall.out q (by rw [HL.out] at hq; omega)))
      rw [List.take_of_length_le (by rw [HOUT.out, HL.out]; omega)] at hrow
      have hq := Joins.ownsRow_le hrow.out B1.out.size
      obtain ⟨g, c, e1⟩ := Joins.ownsRow_form hrow.out (by omega)
      subst e1
      have BW := Lib.hid (B1.out.trans (hbr.out.mono B1.out.size))
      have hI := row_ints hrow.out (by omega) hff.out
      have C := rightM_any (some ⟨g, 0, none⟩) 2 c (outS ws xs s) wr hI
      have hown := Lib.hid (fun w2 (hb : Below wr.heap.size wr w2) => row_kept hq hb)
      cases hr : rightS (outS ws xs s)
      · rw [hr] at C
        have C1 := Lib.hid C
        have ER := Lib.hid (told_out HF.out HWI.out hr)
        clear C hq hI hr hrow
        go_wp2_with fail
        refine C1.out.mono ?_
        rintro e w6 ⟨rfl, hb6⟩
        go_wp2_with fail
        go_ret2
        exact ShapeR.err ER.out (by omega) ⟨rfl, BW.out.trans (hb6.mono BW.out.size)⟩
      · rw [hr] at C
        have C1 := Lib.hid C
        have ER := Lib.hid (told_ok HF.out HWI.out hr)
        clear C hq hI hr hrow
        go_wp2_with fail
        refine C1.out.mono ?_
        rintro e w6 ⟨rfl, hb6⟩
        have P := Lib.hid (show NewE w xs.length (outS ws xs s) (.returned (.tuple #[.slice (some ⟨g, 0, none⟩) 2 c, .int .i64 0])) w6 from by
          rw [HL.out]
          exact ⟨_, c, rfl, hown.out w6 hb6, BW.out.trans (hb6.mono BW.out.size)⟩)
        clear hb6
        go_wp2_with fail
        go_ret2
        exact ShapeR.ok ER.out P.out

set_option maxRecDepth 100000 in
set_option maxHeartbeats 4000000 in
theorem convshape_3 (a1 : Option Addr) (c1 : Nat) (ws : List Int) (a2 : Option Addr) (c2 : Nat) (xs : List Int) (s : Int) (w : World) (h : IntsAt w a1 4 ws) (h' : IntsAt w a2 3 xs) (hc1 : 4 ≤ c1) (hc2 : 3 ≤ c2) (m1 : c1 ≤ 9223372036854775807) (m2 : c2 ≤ 9223372036854775807) (hs1 : -9223372036854775808 ≤ s) (hs2 : s ≤ 9223372036854775807) (hf : formOk ws xs = true) :
    Calls Try.prog 10 #[.slice a1 4 c1, .slice a2 3 c2, .int .i64 s] w (ShapeR w ws xs s) := by
  have C := convfit_any a1 4 c1 ws a2 3 c2 xs w h h'
  rw [hf] at C
  have C1 := Lib.hid C
  have HF := Lib.hid hf
  have HL := Lib.hid h'.1
  obtain ⟨b, off, rfl, hc⟩ := ints_cell h (by omega)
  obtain ⟨b', off', rfl, hc'⟩ := ints_cell h' (by omega)
  obtain ⟨o, ho⟩ : ∃ o, ws.getD 0 0 = o := ⟨_, rfl⟩
  have d1 : ¬ c1 = 2 := by omega
  have d2 : ¬ c2 = 1 := by omega
  have KW := Lib.hid (fun w1 (hb : Below w.heap.size w w1) j (hj : j < 4) => cell_later hb (hc j hj))
  have KX := Lib.hid (fun w1 (hb : Below w.heap.size w w1) j (hj : j < 3) => cell_later hb (hc' j hj))
  have hst : (outS ws xs s).take 1 = [o] := by rw [outS_start hf, ho]
  have HST := Lib.hid hst
  have HO := Lib.hid ho
  have HOUT := Lib.hid (outS_length (s := s) hf)
  have hff := Lib.hid (outS_fits (s := s) hf)
  clear C h h' hf hc hc' hst ho
  go_enter Try.func10, Try.ntmps10
  go_wp2_with fail
  refine C1.out.mono ?_
  rintro e w1 ⟨rfl, hb1⟩
  have B1 := Lib.hid hb1
  have KO := Lib.hid (fun w' (hb : Below w1.heap.size w1 w') => (show w'.cell? ⟨b, off, none⟩ = some (.int .i64 o) from by
    have := KW.out w' (B1.out.trans (hb.mono B1.out.size)) 0 (by omega)
    rwa [Nat.add_zero, HO.out] at this))
  clear hb1 C1
  go_upto_region 3 with (fail)
  have SK := Lib.hid (fun w' (hb : Below w1.heap.size w1 w') => (show w'.cell? ⟨b, off, none⟩ = some (.int .i64 o) from KO.out w' hb))
  have t1 := Lib.hid (show Below w1.heap.size w1 w1.drew from (Below.refl _ _).drew)
  refine wp_region_held_drew (S := fun w' => w'.cell? ⟨b, off, none⟩ = some (.int .i64 o)) (by kernel_rfl) (SK.out _ t1.out) (fun hHeld => ?_)
  refine held_take 0 (.slice (some ⟨b, off, none⟩) 4 c1) rfl (by kernel_rfl) (by kernel_rfl) (by kernel_rfl) (fun _ _ _ h => h) (by rfl) (by intro w' hS; go_simp) (by assumption) ?_
  try simp only [Act.put, List.setIfInBounds_toArray, List.set_cons_zero, List.set_cons_succ]
  refine held_take 1 (.pointer (some ⟨b, off, none⟩)) rfl (by kernel_rfl) (by kernel_rfl) (by kernel_rfl) (fun _ _ _ h => h) (by rfl) (by intro w' hS; go_simp) (by assumption) ?_
  try simp only [Act.put, List.setIfInBounds_toArray, List.set_cons_zero, List.set_cons_succ]
  refine held_take 2 (.int .i64 o) rfl (by kernel_rfl) (by kernel_rfl) (by kernel_rfl) (fun _ _ _ h => h) (by rfl) (by intro w' hS; go_simp) (by assumption) ?_
  try simp only [Act.put, List.setIfInBounds_toArray, List.set_cons_zero, List.set_cons_succ]
  refine held_take 4 (.slice (some ⟨b, off, none⟩) 4 c1) rfl (by kernel_rfl) (by kernel_rfl) (by kernel_rfl) (fun _ _ _ h => h) (by rfl) (by intro w' hS; go_simp) (by assumption) ?_
  try simp only [Act.put, List.setIfInBounds_toArray, List.set_cons_zero, List.set_cons_succ]
  refine held_take 5 (.slice (some ⟨b, off + 2, none⟩) 2 (c1 - 2)) rfl (by kernel_rfl) (by kernel_rfl) (by kernel_rfl) (fun _ _ _ h => h) (by rfl) (by intro w' hS; go_simp) (by assumption) ?_
  try simp only [Act.put, List.setIfInBounds_toArray, List.set_cons_zero, List.set_cons_succ]
  refine held_call 3 (by kernel_rfl) rfl (by rfl) (fun K hK => ?_)
  go_simp
  have hr1 := row_new w1 3 [o] 1 rfl (by omega)
  have hb : Below w1.heap.size w1 (w1.alloc (.cells ([o].map (Value.int .i64)).toArray 3)).drew := ((Below.refl _ _).alloc (Nat.le_refl _) _).drew
  have hr2 : (w1.alloc (.cells ([o].map (Value.int .i64)).toArray 3)).drew.ownsRow w1.heap.size 3 1 (.slice (some ⟨w1.heap.size, 0, none⟩) 1 1) 1 ([o].map (Value.int .i64)) := hr1
  simp only [List.map_cons, List.map_nil] at hr2 hb
  clear hr1
  obtain ⟨w2, hnew⟩ : ∃ wn, (w1.alloc (.cells [Value.int .i64 o].toArray 3)).drew = wn := ⟨_, rfl⟩
  rw [hnew] at hr2 hb ⊢
  clear hnew
  have HR2 := Lib.hid hr2
  clear hr2
  have bq1 := Lib.hid hb
  clear hb
  refine hK.out _ _ (SK.out _ bq1.out) (fun hHeld => ?_)
  try simp only [Act.put, List.setIfInBounds_toArray, List.set_cons_zero, List.set_cons_succ]
  refine held_take 6 (.slice (some ⟨w1.heap.size, 0, none⟩) 1 1) rfl (by kernel_rfl) (by kernel_rfl) (by kernel_rfl) (fun _ _ _ h => h) (by rfl) (by intro w' hS; go_simp) (by assumption) ?_
  try simp only [Act.put, List.setIfInBounds_toArray, List.set_cons_zero, List.set_cons_succ]
  refine held_take 7 (.slice (some ⟨b, off + 2, none⟩) 2 (c1 - 2)) rfl (by kernel_rfl) (by kernel_rfl) (by kernel_rfl) (fun _ _ _ h => h) (by rfl) (by intro w' hS; go_simp) (by assumption) ?_
  try simp only [Act.put, List.setIfInBounds_toArray, List.set_cons_zero, List.set_cons_succ]
  refine wpAnyH_done (by kernel_rfl) ?_ _
  have B2 := Lib.hid (B1.out.trans (bq1.out.mono B1.out.size))
  have HR3 := Lib.hid (show Hid _ from HR2)
  clear hHeld
  go_wp2_with fail
  obtain ⟨i0, hi, hz0, hz1, hz2⟩ := info_parts intInfo
  go_loopw [8, 27] (fun t i wr => ∃ j : Nat, j + 1 ≤ 3 ∧ i = .int .i64 j ∧ Hid (wr.ownsRow w1.heap.size 3 1 t (j + 1) (((outS ws xs s).take (j + 1)).map (Value.int .i64))) ∧ Hid (Below w1.heap.size w1 wr) ∧ Hid (∀ q, q < j → winE (xs.getD (q + 1) 0) (ws.getD (q + 2) 0) s = 0)) (fun _ i _ => 3 - (intOf i).toNat)
  case atStart => exact ⟨0, by omega, rfl, Lib.hid (by rw [HST.out]; exact HR2.out), bq1, Lib.hid (fun q hq => by omega)⟩
  case round =>
    obtain ⟨j, hj, rfl, hrow, hbr, hall⟩ := hrel
    by_cases hlt : j + 1 < 3
    · have hlt' : j < 2 := by omega
      have BW := Lib.hid (B1.out.trans (hbr.out.mono B1.out.size))
      have k1 := KW.out wr BW.out (j + 2) (by omega)
      have k2 := KX.out wr BW.out (j + 1) (by omega)
      rw [show off + (j + 2) = off + 2 + j by omega] at k1
      rw [show off' + (j + 1) = off' + 1 + j by omega] at k2
      have W := Lib.hid (window_any (xs.getD (j + 1) 0) (ws.getD (j + 2) 0) s)
      have SE := Lib.hid (winE_or (xs.getD (j + 1) 0) (ws.getD (j + 2) 0) s)
      have ST := Lib.hid (outS_step (s := s) HF.out (j := j) (by rw [HL.out]; omega))
      have NB := Lib.hid (winN_bounds (xs.getD (j + 1) 0) (ws.getD (j + 2) 0) s)
      have ER := Lib.hid (told_win (s := s) HF.out (j := j) (by rw [HL.out]; omega))
      have GO := Lib.hid (fun (he : winE (xs.getD (j + 1) 0) (ws.getD (j + 2) 0) s = 0) q (hq : q < j + 1) => (show winE (xs.getD (q + 1) 0) (ws.getD (q + 2) 0) s = 0 from by
        by_cases c : q = j
        · rw [c]; exact he
        · exact hall.out q (by omega)))
      obtain ⟨u, hu⟩ : ∃ u, winE (xs.getD (j + 1) 0) (ws.getD (j + 2) 0) s = u := ⟨_, rfl⟩
      obtain ⟨v, hv⟩ : ∃ v, winN (xs.getD (j + 1) 0) (ws.getD (j + 2) 0) s = v := ⟨_, rfl⟩
      rw [hu] at SE ER GO
      rw [hv] at ST NB
      simp only [hu, hv] at W
      clear hu hv
      rcases SE.out with rfl | rfl
      · have GO' := Lib.hid (GO.out rfl)
        obtain ⟨L0, hL0⟩ : ∃ L, ((outS ws xs s).take (j + 1)).map (Value.int .i64) = L := ⟨_, rfl⟩
        have hrw := hrow.out.alloc (.cells #[.int .i64 v] 3)
        rw [hL0] at hrw
        have HL0 := Lib.hid hL0
        have hnew := box_cell wr v 3
        have hone : ∀ u ∈ [Value.int .i64 v], u.oneCell' = true := by intro u hu; simp at hu; subst hu; rfl
        have hb6 : j + 1 + 1 ≤ maxLen := by unfold maxLen; omega
        have hb7 : (j + 1 + 1) * 8 ≤ 140737488355328 := by omega
        have hb8 : w1.heap.size ≤ (wr.alloc (.cells #[.int .i64 v] 3)).heap.size := by have := hbr.out.size; simp; omega
        clear hL0 GO SE ER
        go_wp2_with fail
        refine (W.out wr).mono ?_
        rintro e wv ⟨rfl, rfl⟩
        go_wp2_with (at_builtin; refine wpList_append_own _ rfl _ _ 23 rfl w1.heap.size 3 i0 (.int .i64 0) 1 8 Try.underlying23 hi hz0 hz1 hz2 rfl (by decide) _ (j + 1) _ rfl hrw ⟨wr.heap.size, 0, none⟩ 1 1 [.int .i64 v] rfl rfl hnew hone hb6 hb7 hb8 ?_)
        intro v' w5 hown hgrow hnil
        rw [← HL0.out, ← snoc_int, ← ST.out] at hown
        have hown' := Lib.hid hown
        have hb5 := Lib.hid ((hbr.out.alloc hbr.out.size (.cells #[.int .i64 v] 3)).grown hgrow hb8 (fun q' hq' => (hrow.out.lt q' hq').1))
        clear hown hgrow hnil k1 k2 hnew hone hb6 hb7 hb8 hrw
        go_wp2_with fail
        go_roundw
        case rel => exact ⟨j + 1, by omega, by go_num, hown', hb5, GO'⟩
        case measure => (simp [intOf]; try omega)
      · have ER' := Lib.hid (ER.out rfl)
        clear GO SE ER
        go_wp2_with fail
        refine (W.out wr).mono ?_
        rintro e wv ⟨rfl, rfl⟩
        go_wp2_with fail
        go_ret2
        exact ShapeR.err ER'.out (by omega) ⟨rfl, BW.out⟩
    · obtain rfl : j = 2 := by omega
      have HWI := Lib.hid (wins_yes (s := s) HF.out (fun q hq => hall.out q (by rw [HL.out] at hq; omega)))
      rw [List.take_of_length_le (by rw [HOUT.out, HL.out]; omega)] at hrow
      have hq := Joins.ownsRow_le hrow.out B1.out.size
      obtain ⟨g, c, e1⟩ := Joins.ownsRow_form hrow.out (by omega)
      subst e1
      have BW := Lib.hid (B1.out.trans (hbr.out.mono B1.out.size))
      have hI := row_ints hrow.out (by omega) hff.out
      have C := rightM_any (some ⟨g, 0, none⟩) 3 c (outS ws xs s) wr hI
      have hown := Lib.hid (fun w2 (hb : Below wr.heap.size wr w2) => row_kept hq hb)
      cases hr : rightS (outS ws xs s)
      · rw [hr] at C
        have C1 := Lib.hid C
        have ER := Lib.hid (told_out HF.out HWI.out hr)
        clear C hq hI hr hrow
        go_wp2_with fail
        refine C1.out.mono ?_
        rintro e w6 ⟨rfl, hb6⟩
        go_wp2_with fail
        go_ret2
        exact ShapeR.err ER.out (by omega) ⟨rfl, BW.out.trans (hb6.mono BW.out.size)⟩
      · rw [hr] at C
        have C1 := Lib.hid C
        have ER := Lib.hid (told_ok HF.out HWI.out hr)
        clear C hq hI hr hrow
        go_wp2_with fail
        refine C1.out.mono ?_
        rintro e w6 ⟨rfl, hb6⟩
        have P := Lib.hid (show NewE w xs.length (outS ws xs s) (.returned (.tuple #[.slice (some ⟨g, 0, none⟩) 3 c, .int .i64 0])) w6 from by
          rw [HL.out]
          exact ⟨_, c, rfl, hown.out w6 hb6, BW.out.trans (hb6.mono BW.out.size)⟩)
        clear hb6
        go_wp2_with fail
        go_ret2
        exact ShapeR.ok ER.out P.out

end Go.Proofs.Ytapelgjnnccfoaa

/-
  Worlds in which all blocks that were there are as they were, some of them apart; new blocks may come.
-/
namespace Go.Proofs.Ytapelgjnnccfoaa
open Go.RowKit
set_option linter.unusedVariables false
set_option linter.unusedSimpArgs false

structure Save (s : Nat → Prop) (w w' : World) : Prop where
  os : w'.os = w.os
  tape : w'.tape = w.tape
  output : w'.output = w.output
  size : w.heap.size ≤ w'.heap.size
  block : ∀ k, k < w.heap.size → ¬ s k → w'.heap[k]? = w.heap[k]?
section
variable {s : Nat → Prop} {w w' w'' : World}
theorem Save.refl (s : Nat → Prop) (w : World) : Save s w w := ⟨rfl, rfl, rfl, Nat.le_refl _, fun _ _ _ => rfl⟩
theorem Save.later (h : Save s w w') (hb : Below w'.heap.size w' w'') : Save s w w'' :=
  ⟨hb.os.trans h.os, hb.tape.trans h.tape, hb.output.trans h.output, Nat.le_trans h.size hb.size, fun k hk hs => (hb.block k (Nat.lt_of_lt_of_le hk h.size)).trans (h.block k hk hs)⟩
theorem Save.of_below (hb : Below w.heap.size w w') : Save s w w' := (Save.refl s w).later hb
theorem Save.setCell (h : Save s w w') {g : Nat} (hg : s g) (j : Nat) (v : Value) : Save s w (w'.setCell ⟨g, j, none⟩ v) := by
  have hb : Below 0 w' (w'.setCell ⟨g, j, none⟩ v) := (Below.refl 0 w').setCell (Nat.zero_le _) v
  refine ⟨hb.os.trans h.os, hb.tape.trans h.tape, hb.output.trans h.output, by simpa using h.size, fun k hk hs => (Below.heap_setCell w' ⟨g, j, none⟩ v k (fun e => hs (by subst e; exact hg))).trans (h.block k hk hs)⟩
theorem Save.drew (h : Save s w w') : Save s w w'.drew := ⟨h.os, h.tape, h.output, h.size, h.block⟩
theorem Save.drewN (h : Save s w w') (n : Nat) : Save s w (w'.drewN n) := ⟨h.os, h.tape, h.output, h.size, h.block⟩
theorem Save.grown {row : Option Nat} (h : Save s w w') (hg : w'.grownBy w'' row) (hr : ∀ q, row = some q → w.heap.size ≤ q) : Save s w w'' :=
  ⟨hg.os.trans h.os, hg.tape.trans h.tape, hg.output.trans h.output, Nat.le_trans h.size hg.size, fun k hk hs => (hg.block k (Nat.lt_of_lt_of_le hk h.size) (fun e => by have := hr k e.symm; omega)).trans (h.block k hk hs)⟩
theorem Save.below {B : Nat} {w0 : World} (h : Save s w w') (hb : Below B w0 w) (hB : B ≤ w.heap.size) (hg : ∀ k, s k → B ≤ k) : Below B w0 w' :=
  ⟨h.os.trans hb.os, h.tape.trans hb.tape, h.output.trans hb.output, Nat.le_trans hb.size h.size, fun k hk => (h.block k (by omega) (fun hs => by have := hg k hs; omega)).trans (hb.block k hk)⟩
theorem Save.gat {B : Nat} {x c : Value} (h : Save s w w') (hG : GAt w B x c) (hB : ¬ s B) : GAt w' B x c := (h.block B hG.lt hB).trans hG
theorem Save.cell {p : Addr} {v : Value} (h : Save s w w') (hc : w.cell? p = some v) (hp : ¬ s p.block) : w'.cell? p = some v :=
  (World.cell?_of_block (h.block p.block (World.block_lt_of_cell? w p hc) hp)).trans hc
theorem Save.ints {a : Option Addr} {n : Nat} {zs : List Int} (hO : Save s w w') (h : IntsAt w a n zs) (hg : ∀ q, a = some q → ¬ s q.block) : IntsAt w' a n zs := by
  obtain ⟨h1, h2, h3, h4⟩ := h
  refine ⟨h1, h2, h3, ?_⟩
  rcases h4 with h4 | ⟨b, off, ha, hc⟩
  · exact .inl h4
  · exact .inr ⟨b, off, ha, fun j hj => hO.cell (hc j hj) (fun hs => hg _ ha hs)⟩
theorem Save.row {B : Nat} {e : TypeId} {k : Nat} {v : Value} {n : Nat} {xs : List Value} (hO : Save s w w') (h : w.ownsRow B e k v n xs) (hg : ∀ q, v.ownBlock = some q → ¬ s q) : w'.ownsRow B e k v n xs := by
  rcases h.2 with h2 | ⟨g', cap, cur, hv, hbg, hg', rest⟩
  · exact ⟨h.1, .inl h2⟩
  · exact ⟨h.1, .inr ⟨g', cap, cur, hv, hbg, (hO.block g' (Array.getElem?_eq_some_iff.1 hg').1 (hg g' (by rw [hv]; rfl))).trans hg', rest⟩⟩
end
end Go.Proofs.Ytapelgjnnccfoaa

/-
  Contracts of package conv: zeros, outputShape.
-/
namespace Go.Proofs.Ytapelgjnnccfoaa
open Go.RowKit
set_option linter.unusedVariables false
set_option linter.unusedSimpArgs false

set_option maxHeartbeats 2000000 in
theorem zeros_any (sa : Option Addr) (sl sc : Nat) (ss : List Int) (w : World) (h : IntsAt w sa sl ss) (hr : rightS ss = true) (N : Nat) (hN : prodI ss = N) :
    Calls Try.prog 33 #[.slice sa sl sc] w fun e w' => ∃ v, e = .returned v ∧ NewT w sl ss N (List.replicate N 0) v w' := by
  obtain ⟨wA, hwA, J1, z1, n1⟩ := grid_box w (.slice none 0 0) (.slice none 0 0)
  have C := Lib.hid (make_ok sa sl sc ss 0 wA (h.kept z1.out) hr N hN)
  clear h hr hN
  go_enter Try.func33, Try.ntmps33
  go_upto_region 1 with (fail)
  rw [hwA.out]
  go_wp2_with fail
  refine C.out.mono ?_
  rintro e w1 ⟨v, rfl, A, c, A', c', rfl, o1, o2, ap, hb⟩
  obtain ⟨wB, hwB, J2, z2, n2⟩ := grid_box w1 (.slice A sl c) (.slice A' N c')
  go_upto_region 2 with (fail)
  rw [hwB.out]
  have J3 := (J1.out.kept hb).kept z2.out
  obtain ⟨e0, e1, f0, f1⟩ := J3.see
  obtain ⟨i0, i1, -, -⟩ := J2.out.see
  obtain ⟨h0, h1, -, -⟩ := (J3.set (.slice A sl c) (.slice A' N c')).see
  have hw1 : w.heap.size < w1.heap.size := by have := n1.out; have := hb.size; omega
  have hwA1 : w.heap.size < wA.heap.size := by have := n1.out; omega
  have P : NewT w sl ss N (List.replicate N 0) (.agg #[.slice A sl c, .slice A' N c']) ((wB.setCell ⟨w.heap.size, 0, none⟩ (.slice A sl c)).setCell ⟨w.heap.size, 1, none⟩ (.slice A' N c')) :=
    ⟨A, c, A', c', rfl, Joins.ownsRow_le (row_far (row_far (row_kept o1 z2.out) hwA1) hwA1) (Nat.le_of_lt hwA1), Joins.ownsRow_le (row_far (row_far (row_kept o2 z2.out) hwA1) hwA1) (Nat.le_of_lt hwA1), ap,
      ((z1.out.trans ((hb.trans (z2.out.mono hb.size)).mono z1.out.size)).setCell (Nat.le_refl _) _).setCell (Nat.le_refl _) _⟩
  have P' := Lib.hid P
  clear P o1 o2 ap hb J3 hw1 hwA1
  go_wp2_with fail
  refine bodyPost_ret (v := .agg #[.slice A sl c, .slice A' N c']) ?_ rfl ⟨_, rfl, P'.out⟩
  simp [results, Try.results33, go_sem, h0, h1]

/-- What the tensors lead to: the first error. -/
def tensE (W x : TV) (s : Int) : Int := if rightT W.ss W.cl = true ∧ rightT x.ss x.cl = true then toldE W.ss x.ss s else 20
theorem tensE_no {W x : TV} {s : Int} (h : ¬ (rightT W.ss W.cl = true ∧ rightT x.ss x.cl = true)) : tensE W x s = 20 := by unfold tensE; rw [if_neg h]
theorem tensE_yes {W x : TV} {s : Int} (h : rightT W.ss W.cl = true) (h' : rightT x.ss x.cl = true) : tensE W x s = toldE W.ss x.ss s := by unfold tensE; rw [if_pos ⟨h, h'⟩]
/-- The sides lie within their row. -/
def TV.CapS (t : TV) : Prop := t.sl ≤ t.sc ∧ t.sc ≤ 9223372036854775807

/-- What Shape answers, whatever the form. -/
theorem convshape_any (W x : TV) (s : Int) (w : World) (h : W.At w) (h' : x.At w) (c1 : W.CapS) (c2 : x.CapS) (hs1 : -9223372036854775808 ≤ s) (hs2 : s ≤ 9223372036854775807) :
    Calls Try.prog 10 #[.slice W.sa W.sl W.sc, .slice x.sa x.sl x.sc, .int .i64 s] w (ShapeR w W.ss x.ss s) := by
  cases hf : formOk W.ss x.ss
  · exact (convshape_form _ _ _ _ _ _ _ _ s w h.1 h'.1 hf).mono fun e w' hn => ShapeR.err (told_form hf) (by omega) hn
  · obtain ⟨-, -, g1, g2, -⟩ := formOk_parts hf
    obtain ⟨wa, wl, wc, ws, W5, W6, W7, W8⟩ := W
    obtain ⟨xa, xl, xc, xs, x5, x6, x7, x8⟩ := x
    have e1 : ws.length = wl := h.1.1
    have e2 : xs.length = xl := h'.1.1
    have k1 : IntsAt w wa wl ws := h.1
    have k2 : IntsAt w xa xl xs := h'.1
    simp only [TV.CapS] at *
    rcases g2 with g2 | g2
    · obtain rfl : xl = 2 := by omega
      obtain rfl : wl = 3 := by omega
      exact convshape_2 wa wc ws xa xc xs s w k1 k2 c1.1 c2.1 c1.2 c2.2 hs1 hs2 hf
    · obtain rfl : xl = 3 := by omega
      obtain rfl : wl = 4 := by omega
      exact convshape_3 wa wc ws xa xc xs s w k1 k2 c1.1 c2.1 c1.2 c2.2 hs1 hs2 hf

set_option maxRecDepth 100000 in
set_option maxHeartbeats 2000000 in
theorem outshape_any (W x : TV) (s : Int) (w : World) (h : W.At w) (h' : x.At w) (c1 : W.CapS) (c2 : x.CapS) (hs1 : -9223372036854775808 ≤ s) (hs2 : s ≤ 9223372036854775807) :
    Calls Try.prog 32 #[.agg #[.slice W.sa W.sl W.sc, .slice W.ca W.cl W.cc], .agg #[.slice x.sa x.sl x.sc, .slice x.ca x.cl x.cc], .int .i64 s] w
      fun e w' => (tensE W x s = 0 → NewE w x.ss.length (outS W.ss x.ss s) e w') ∧ (tensE W x s ≠ 0 → NilE w (tensE W x s) e w') := by
  obtain ⟨wA, hwA, J1, z1, n1⟩ := grid_box w (.slice W.sa W.sl W.sc) (.slice W.ca W.cl W.cc)
  obtain ⟨wB, hwB, J2, z2, n2⟩ := grid_box wA (.slice x.sa x.sl x.sc) (.slice x.ca x.cl x.cc)
  rw [n1.out] at J2
  have z := Lib.hid (z1.out.trans (z2.out.mono z1.out.size))
  have J1' := Lib.hid (J1.out.kept z2.out)
  have C := tright_any W.sa W.sl W.sc W.ss W.ca W.cl W.cc wB (h.1.kept z.out) (by have := h.2.2.2; omega)
  have D := fun w1 (hb : Below wB.heap.size wB w1) => tright_any x.sa x.sl x.sc x.ss x.ca x.cl x.cc w1 ((h'.1.kept z.out).kept hb) (by have := h'.2.2.2; omega)
  have S := Lib.hid (fun w1 (hb : Below wB.heap.size wB w1) => convshape_any W x s w1 ((h.kept z.out).kept hb) ((h'.kept z.out).kept hb) c1 c2 hs1 hs2)
  obtain ⟨j0, j1, -, -⟩ := J1'.out.see
  obtain ⟨i0, i1, -, -⟩ := J2.out.see
  clear h h' c1 c2
  cases b1 : rightT W.ss W.cl
  · rw [b1] at C
    have C1 := Lib.hid C
    have E := Lib.hid (tensE_no (W := W) (x := x) (s := s) (by rw [b1]; simp))
    clear C D S b1
    go_enter Try.func32, Try.ntmps32
    go_upto_region 1 with (fail)
    rw [hwA.out, hwB.out]
    go_wp2_with fail
    refine C1.out.mono ?_
    rintro e w1 ⟨rfl, hb⟩
    go_wp2_with fail
    go_ret2
    exact ⟨fun h0 => absurd (E.out.symm.trans h0) (by omega), fun _ => by rw [E.out]; exact ⟨rfl, z.out.trans (hb.mono z.out.size)⟩⟩
  rw [b1] at C
  have C1 := Lib.hid C
  cases b2 : rightT x.ss x.cl
  · simp only [b2] at D
    have D1 := Lib.hid D
    have E := Lib.hid (tensE_no (W := W) (x := x) (s := s) (by rw [b2]; simp))
    clear C D S b1 b2
    go_enter Try.func32, Try.ntmps32
    go_upto_region 1 with (fail)
    rw [hwA.out, hwB.out]
    go_wp2_with fail
    refine C1.out.mono ?_
    rintro e w1 ⟨rfl, hb⟩
    obtain ⟨k0, k1, -, -⟩ := (J2.out.kept hb).see
    go_wp2_with fail
    refine (D1.out w1 hb).mono ?_
    rintro e w2 ⟨rfl, hb2⟩
    have hb3 := hb.trans (hb2.mono hb.size)
    go_wp2_with fail
    go_ret2
    exact ⟨fun h0 => absurd (E.out.symm.trans h0) (by omega), fun _ => by rw [E.out]; exact ⟨rfl, z.out.trans (hb3.mono z.out.size)⟩⟩
  · simp only [b2] at D
    have D1 := Lib.hid D
    have E := Lib.hid (tensE_yes (s := s) b1 b2)
    clear C D b1 b2
    go_enter Try.func32, Try.ntmps32
    go_upto_region 1 with (fail)
    rw [hwA.out, hwB.out]
    go_wp2_with fail
    refine C1.out.mono ?_
    rintro e w1 ⟨rfl, hb⟩
    obtain ⟨k0, k1, -, -⟩ := (J2.out.kept hb).see
    go_wp2_with fail
    refine (D1.out w1 hb).mono ?_
    rintro e w2 ⟨rfl, hb2⟩
    have hb3 := hb.trans (hb2.mono hb.size)
    obtain ⟨q0, q1, -, -⟩ := (J2.out.kept hb3).see
    obtain ⟨p0, p1, -, -⟩ := (J1'.out.kept hb3).see
    have S2 := Lib.hid (S.out w2 hb3)
    have Z2 := Lib.hid (z.out.trans (hb3.mono z.out.size))
    clear S hb hb2 hb3 k0 k1 j0 j1 i0 i1
    go_wp2_with fail
    refine S2.out.mono ?_
    rintro e w3 ⟨g1, g2⟩
    by_cases h0 : toldE W.ss x.ss s = 0
    · obtain ⟨A, c, rfl, ho, hb⟩ := g1 h0
      have Q := Lib.hid (show NewE w x.ss.length (outS W.ss x.ss s) (.returned (.tuple #[.slice A x.ss.length c, .int .i64 0])) w3 from ⟨A, c, rfl, Joins.ownsRow_le ho Z2.out.size, Z2.out.trans (hb.mono Z2.out.size)⟩)
      have h0' := Lib.hid h0
      obtain ⟨n, hn⟩ : ∃ n, x.ss.length = n := ⟨_, rfl⟩
      have HN := Lib.hid hn
      rw [hn] at Q ⊢
      clear g1 g2 ho hb h0 hn
      go_wp2_with fail
      go_ret2
      refine ⟨fun _ => ?_, fun h1 => absurd (E.out.trans h0'.out) h1⟩
      rw [HN.out]
      exact Q.out
    · obtain ⟨rfl, hb⟩ := g2 h0
      have Q := Lib.hid (Z2.out.trans (hb.mono Z2.out.size))
      have h0' := Lib.hid h0
      clear g1 g2 hb h0
      go_wp2_with fail
      go_ret2
      refine ⟨fun h1 => absurd (E.out.symm.trans h1) h0'.out, fun _ => ?_⟩
      rw [E.out]
      exact ⟨rfl, Q.out⟩
end Go.Proofs.Ytapelgjnnccfoaa

