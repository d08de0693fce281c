import Derived.Test.YtapelgjnnccfoaaJ00
import Derived.Test.YtapelgjnnccfoaaJ01
import Derived.Test.YtapelgjnnccfoaaJ02
import Derived.Test.YtapelgjnnccfoaaJ03
import Derived.Test.YtapelgjnnccfoaaJ07
import Derived.LoopTactic
import Derived.OpenShut
import Derived.Deep.RegionWith
/-
  Contracts of package conv: windowStarts, Touch and the iterator that it makes.
-/
namespace Go.Proofs.Ytapelgjnnccfoaa
open Go.RowKit Go.Shelf
attribute [local go_sem] Oper.semAt_some
set_option linter.unusedVariables false
set_option linter.unusedSimpArgs false

theorem placeL_range {xs zs : List Int} {s : Int} (hx : rightS xs = true) (k : Nat) : 0 ≤ placeL xs zs s k ∧ placeL xs zs s k ≤ 65536 := by
  unfold placeL placeN
  split
  · rename_i h
    have h1 := numP_lt h.1 h.2
    have h2 := (rightS_parts hx).2.2.2
    omega
  · omega

set_option maxHeartbeats 2000000 in
theorem winstarts_any (oa : Option Addr) (ol oc : Nat) (os : List Int) (xa : Option Addr) (xl xc : Nat) (xs : List Int) (s : Int) (w : World) (h : IntsAt w oa ol os) (h' : IntsAt w xa xl xs) (hl : 0 < ol) (hl2 : ol ≤ 1000) (hr : rightS (os.set 0 1) = true) (N : Nat) (hN : prodI (os.set 0 1) = N) (hs1 : 0 ≤ s) (hs2 : s ≤ 1024) :
    Calls Try.prog 48 #[.slice oa ol oc, .slice xa xl xc, .int .i64 s] w (NewInts w N ((List.range N).map (placeL xs (os.set 0 1) s))) := by
  have C := Lib.hid (copy_any oa ol oc os w h hl2)
  have hf := Lib.hid (h.2.2.1)
  have HX := Lib.hid (fun w1 (hb : Below w.heap.size w w1) => h'.kept hb)
  have PL := Lib.hid (fun A c w1 (h1 : IntsAt w1 A ol (os.set 0 1)) (h2 : IntsAt w1 xa xl xs) => places_any xa xl xc xs A ol c (os.set 0 1) s w1 h2 h1 hr N hN hs1 hs2)
  obtain ⟨zs, hzs⟩ : ∃ zs, (List.range N).map (placeL xs (os.set 0 1) s) = zs := ⟨_, rfl⟩
  rw [hzs] at PL ⊢
  clear h h' hr hN hzs
  go_enter Try.func48, Try.ntmps48
  go_wp2_with fail
  refine C.out.mono ?_
  rintro e w1 ⟨A, c, rfl, ho, hb1⟩
  obtain ⟨g, c', hv⟩ := Joins.ownsRow_form ho (by omega)
  simp only [Value.slice.injEq] at hv
  obtain ⟨rfl, -, rfl⟩ := hv
  have k0 : w1.cell? ⟨g, 0, none⟩ = some (.int .i64 (os.getD 0 0)) := by
    have hol : os.length = ol := by have := ho.1; simpa using this
    have e := ho.cellAt 0 (by omega)
    rw [List.getElem?_map, List.getElem?_eq_getElem (by omega)] at e
    rw [e]
    simp [List.getD, List.getElem?_eq_getElem (show 0 < os.length by omega)]
  have f0 := ho.frozenAt 0
  obtain ⟨ho4, -⟩ := ho.stored 0 (.int .i64 1)
  rw [← List.map_set] at ho4
  have hg := (ho.lt g rfl).1
  have hb2 : Below w.heap.size w (w1.setCell ⟨g, 0, none⟩ (.int .i64 1)) := hb1.setCell (p := ⟨g, 0, none⟩) hg _
  have P1 := Lib.hid (PL.out (some ⟨g, 0, none⟩) c _ (row_ints ho4 (by omega) (hf.out.set 0 1 (by omega) (by omega))) (HX.out _ hb2))
  have B2 := Lib.hid hb2
  clear ho ho4 hb1 hb2 hg C HX PL
  go_wp2_with fail
  refine P1.out.mono ?_
  rintro e w3 ⟨A3, c3, rfl, ho3, hb3⟩
  have Q := Lib.hid (show NewInts w N zs (.returned (.slice A3 N c3)) w3 from ⟨A3, c3, rfl, Joins.ownsRow_le ho3 B2.out.size, B2.out.trans (hb3.mono B2.out.size)⟩)
  clear ho3 hb3
  go_wp2_with fail
  go_ret
  exact Q.out

set_option maxHeartbeats 400000 in
theorem touch_any (a1 : Option Addr) (l1 c1 : Nat) (a2 : Option Addr) (l2 c2 : Nat) (s : Int) (w : World) :
    Calls Try.prog 34 #[.slice a1 l1 c1, .slice a2 l2 c2, .int .i64 s] w fun e w' => e = .returned (.func (.func 47) #[] #[.pointer (some ⟨w.heap.size, 0, none⟩), .pointer (some ⟨w.heap.size + 1, 0, none⟩), .pointer (some ⟨w.heap.size + 2, 0, none⟩)]) ∧
      ((w.alloc (.cells #[.slice a1 l1 c1] 23)).alloc (.cells #[.slice a2 l2 c2] 23)).alloc (.cells #[.int .i64 s] 3) = w' := by
  have hmf : ∀ (fn : Fn) (first cap : Array Value) (w : World), (Instr.makeFunc fn first cap).run Try.prog w = .ok (.func fn first cap) w := fun _ _ _ _ => rfl
  go_enter Try.func34, Try.ntmps34
  go_wp2_with fail
  go_ret
  exact ⟨by simp, rfl⟩

/-- The products that are handed over. -/
def touchL (w x : List Int) (s : Int) : List Tri := if toldE w x s = 0 then (planOf w x s).all else []
def triV (x : Tri) (_ : Unit) : Array Value := #[.agg #[.int .i64 (x.1 : Int), .int .i64 (x.2.1 : Int), .int .i64 (x.2.2 : Int)]]
/-- The boxes of what was handed to Touch. -/
def TouchC (Bw Bx Bs : Nat) (W x : TV) (s : Int) (V : World) : Prop :=
  V.cell? ⟨Bw, 0, none⟩ = some (.slice W.sa W.sl W.sc) ∧ V.cell? ⟨Bx, 0, none⟩ = some (.slice x.sa x.sl x.sc) ∧ V.cell? ⟨Bs, 0, none⟩ = some (.int .i64 s) ∧ W.At V ∧ x.At V
theorem TouchC.kept {Bw Bx Bs : Nat} {W x : TV} {s : Int} {V V' : World} (h : TouchC Bw Bx Bs W x s V) (hb : Below V.heap.size V V') : TouchC Bw Bx Bs W x s V' := ⟨cell_later hb h.1, cell_later hb h.2.1, cell_later hb h.2.2.1, h.2.2.2.1.kept hb, h.2.2.2.2.kept hb⟩

set_option maxRecDepth 100000 in
set_option maxHeartbeats 2000000 in
theorem touch_none (Bw Bx Bs : Nat) (W x : TV) (s : Int) (c1 : W.CapS) (c2 : x.CapS) (hs1 : -9223372036854775808 ≤ s) (hs2 : s ≤ 9223372036854775807) (hE : toldE W.ss x.ss s ≠ 0) :
    IterOf Try.prog 47 #[.pointer (some ⟨Bw, 0, none⟩), .pointer (some ⟨Bx, 0, none⟩), .pointer (some ⟨Bs, 0, none⟩)] (fun _ => False) (TouchC Bw Bx Bs W x s) (touchL W.ss x.ss s) triV (fun _ _ _ _ => True) := by
  intro l J Jx sJ sJx hY V hC h0
  have hx : touchL W.ss x.ss s = [] := by unfold touchL; rw [if_neg hE]
  rw [hx]
  obtain ⟨k1, k2, k3, k4, k5⟩ := hC
  have SH := convshape_any W x s V k4 k5 c1 c2 hs1 hs2
  have SH1 := Lib.hid (SH.mono (fun e w' hh => hh.2 hE))
  obtain ⟨u, hu⟩ : ∃ u, toldE W.ss x.ss s = u := ⟨_, rfl⟩
  rw [hu] at SH1 hE
  have hE' : ¬ u = 0 := hE
  have fin := Lib.hid (fun w2 (hb : Below V.heap.size V w2) => sJ [] _ _ _ _ h0 (ItStep.of_below hb))
  clear SH hY h0 hx k4 k5 c1 c2 hE hu
  go_enter Try.func47, Try.ntmps47
  go_wp2_with fail
  refine SH1.out.mono ?_
  rintro e w2 ⟨rfl, hb⟩
  have F := Lib.hid (fin.out w2 hb)
  clear hb
  go_wp2_with fail
  refine bodyPost_ret (results_none rfl _ _ _) rfl ?_
  exact ⟨⟨_, rfl⟩, .inl ⟨_, F.out⟩⟩

theorem ints_drop {w : World} {b off m : Nat} {zs : List Int} (h : IntsAt w (some ⟨b, off, none⟩) (m + 1) zs) : IntsAt w (some ⟨b, off + 1, none⟩) m (zs.drop 1) := by
  obtain ⟨h1, h2, h3, h4⟩ := h
  refine ⟨by rw [List.length_drop]; omega, by omega, fun n hn => h3 n (List.mem_of_mem_drop hn), .inr ⟨b, off + 1, rfl, fun j hj => ?_⟩⟩
  rcases h4 with h4 | ⟨b', off', ha, hc⟩
  · omega
  · cases ha
    have := hc (1 + j) (by omega)
    rw [← Nat.add_assoc] at this
    rw [this, Nat.add_comm 1 j]
    simp [List.getD, List.getElem?_drop, Nat.add_comm]
theorem IntsAt.rd {W W' : World} {M : BSet} {g n : Nat} {zs : List Int} (h : IntsAt W (some ⟨g, 0, none⟩) n zs) (hs : RdStep M W W') (hM : M g) : IntsAt W' (some ⟨g, 0, none⟩) n zs := by
  obtain ⟨h1, h2, h3, h4⟩ := h
  refine ⟨h1, h2, h3, ?_⟩
  rcases h4 with h4 | ⟨b, off, ha, hc⟩
  · exact .inl h4
  · cases ha
    exact .inr ⟨g, 0, rfl, fun j hj => hs.cell (hc j hj) hM⟩
/-- The shapes of the places that Touch goes through. -/
theorem chan_right {w x : List Int} {s : Int} (h : toldE w x s = 0) : rightS (chanS w x s) = true ∧ prodI (chanS w x s) = (((planOf w x s).m * (planOf w x s).n : Nat) : Int) ∧ (chanS w x s).length = x.length := by
  have F := plan_facts h
  obtain ⟨h1, h2, h3⟩ := told_parts h
  have hp := F.pos
  have ho := F.out
  obtain ⟨r1, r2, r3, r4⟩ := rightS_parts h3
  have hO : (outS w x s).getD 0 0 = ((planOf w x s).O : Int) := by
    have := (allR_getD (rightS_parts (formOk_parts h1).1).2.2.1 0 (by have := (rightS_parts (formOk_parts h1).1).1; omega)).1
    rcases form_cases h1 with ⟨o, c, l, n, rfl, rfl⟩ | ⟨o, c, k, l, hh, n, rfl, rfl⟩ <;> (simp at this; simp [outS, planOf]; omega)
  obtain ⟨a, r, hr⟩ : ∃ a r, outS w x s = a :: r := by
    match hq : outS w x s with
    | [] => rw [hq] at r1; simp at r1
    | a :: r => exact ⟨a, r, rfl⟩
  have hl := outS_length (s := s) h1
  unfold chanS
  rw [hr] at hO ho r2 r3 r4 hl ⊢
  simp at hO
  obtain ⟨⟨a1, a2⟩, a3⟩ := allR_cons r3
  have pr : 1 ≤ prodI r := prodI_pos (hi := 1024) a3
  rw [prodI_cons] at ho r4
  have e1 : prodI ((a :: r).set 0 1) = prodI r := by simp [prodI_cons]
  have e2 : prodI r = (((planOf w x s).m * (planOf w x s).n : Nat) : Int) := by
    rw [hO, Nat.mul_assoc, Int.natCast_mul] at ho
    exact (Int.eq_of_mul_eq_mul_left (by omega) ho).symm
  refine ⟨?_, by rw [e1, e2], by simpa using hl⟩
  refine rightS_yes (by simp) (by simpa using r2) ?_ ?_
  · simp only [List.set_cons_zero]
    unfold allR at a3 ⊢
    rw [List.all_cons, a3]
    decide
  · rw [e1]
    have : 1 * prodI r ≤ a * prodI r := Int.mul_le_mul_of_nonneg_right a1 (by omega)
    omega
theorem ker_right {w x : List Int} {s : Int} (h : toldE w x s = 0) : rightS (w.drop 1) = true ∧ prodI (w.drop 1) = (((planOf w x s).C * (planOf w x s).K * (planOf w x s).L : Nat) : Int) := by
  have F := plan_facts h
  obtain ⟨h1, h2, h3⟩ := told_parts h
  have hk := F.kernel
  have hp := F.pos
  have hw := (formOk_parts h1).1
  have hl := (formOk_parts h1).2.2.1
  have hx := (formOk_parts h1).2.2.2.1
  obtain ⟨r1, r2, r3, r4⟩ := rightS_parts hw
  have hO : w.getD 0 0 = ((planOf w x s).O : Int) := by
    have := (allR_getD r3 0 (by omega)).1
    rcases form_cases h1 with ⟨o, c, l, n, rfl, rfl⟩ | ⟨o, c, k, l, hh, n, rfl, rfl⟩ <;> (simp at this; simp [planOf]; omega)
  match w, hO, hk, r1, r2, r3, r4, hl with
  | a :: r, hO, hk, r1, r2, r3, r4, hl =>
    simp at hO
    obtain ⟨⟨a1, a2⟩, a3⟩ := allR_cons r3
    have pr : 1 ≤ prodI r := prodI_pos (hi := 1024) a3
    rw [prodI_cons] at hk r4
    have e2 : prodI r = (((planOf (a :: r) x s).C * (planOf (a :: r) x s).K * (planOf (a :: r) x s).L : Nat) : Int) := by
      rw [show (planOf (a :: r) x s).O * (planOf (a :: r) x s).C * (planOf (a :: r) x s).K * (planOf (a :: r) x s).L = (planOf (a :: r) x s).O * ((planOf (a :: r) x s).C * (planOf (a :: r) x s).K * (planOf (a :: r) x s).L) by simp only [Nat.mul_assoc], Int.natCast_mul, ← hO] at hk
      exact (Int.eq_of_mul_eq_mul_left (by omega) hk).symm
    have hrr : rightS r = true := by
      refine rightS_yes ?_ ?_ a3 ?_
      · simp only [List.length_cons] at hl; omega
      · simp only [List.length_cons] at r2; omega
      · have : 1 * prodI r ≤ a * prodI r := Int.mul_le_mul_of_nonneg_right a1 (by omega)
        omega
    exact ⟨hrr, e2⟩
theorem touch_items {w x : List Int} {s : Int} (h : toldE w x s = 0) :
    tch1 (fun i => (placeL x (chanS w x s) s i).toNat) (fun c => (placeL x (w.drop 1) 1 c).toNat) ((planOf w x s).m * (planOf w x s).n) ((planOf w x s).C * (planOf w x s).K * (planOf w x s).L) (planOf w x s).O = touchL w x s := by
  unfold touchL
  rw [if_pos h]
  refine tch_all _ _ _ (fun i j hi hj => ?_) (fun c t u hc ht hu => ?_)
  · show (placeL x (chanS w x s) s _).toNat = _
    rw [starts_at h hi hj]
    exact Int.toNat_natCast _
  · show (placeL x (w.drop 1) 1 _).toNat = _
    rw [offs_at h hc ht hu]
    exact Int.toNat_natCast _
theorem outS_first {w x : List Int} {s : Int} (h : toldE w x s = 0) : (outS w x s).getD 0 0 = ((planOf w x s).O : Int) := by
  obtain ⟨h1, h2, h3⟩ := told_parts h
  have := (allR_getD (rightS_parts (formOk_parts h1).1).2.2.1 0 (by have := (rightS_parts (formOk_parts h1).1).1; omega)).1
  rcases form_cases h1 with ⟨o, c, l, n, rfl, rfl⟩ | ⟨o, c, k, l, hh, n, rfl, rfl⟩ <;> (simp at this; simp [outS, planOf]; omega)

set_option maxRecDepth 100000 in
set_option maxHeartbeats 8000000 in
theorem touch_ok (Bw Bx Bs : Nat) (W x : TV) (s : Int) (c1 : W.CapS) (c2 : x.CapS) (hE : toldE W.ss x.ss s = 0) :
    IterOf Try.prog 47 #[.pointer (some ⟨Bw, 0, none⟩), .pointer (some ⟨Bx, 0, none⟩), .pointer (some ⟨Bs, 0, none⟩)] (fun _ => False) (TouchC Bw Bx Bs W x s) (touchL W.ss x.ss s) triV (fun _ _ _ _ => True) := by
  intro l J Jx sJ sJx hY0 V hC h0
  have hs : 1 ≤ s ∧ s ≤ 1024 := by
    obtain ⟨t1, t2, t3⟩ := told_parts hE
    rcases form_cases t1 with ⟨o, c, l, n, e1, e2⟩ | ⟨o, c, k, l, hh, n, e1, e2⟩
    · rw [e1, e2] at t2
      have w1 : decide (winE n l s = 0) = true := t2
      exact (winE_ok (of_decide_eq_true w1)).2.2.1
    · rw [e1, e2] at t2
      have w2 : (decide (winE hh k s = 0) && decide (winE n l s = 0)) = true := t2
      rw [Bool.and_eq_true] at w2
      exact (winE_ok (of_decide_eq_true w2.2)).2.2.1
  obtain ⟨k1, k2, k3, k4, k5⟩ := hC
  have SH := convshape_any W x s V k4 k5 c1 c2 (by omega) (by omega)
  have SH1 := SH.mono (fun e w' hh => hh.1 hE)
  have F := plan_facts hE
  have hsm := F.small
  have hps := F.pos
  have hform := (told_parts hE).1
  obtain ⟨f1, f2, f3, f4, -⟩ := formOk_parts hform
  have CR := chan_right hE
  have KR := ker_right hE
  have OF0 := outS_first hE
  have TI := touch_items hE
  have hout := rightS_parts (told_parts hE).2.2
  have hofit := outS_fits (s := s) hform
  have holen := outS_length (s := s) hform
  obtain ⟨wa, wl, wc, ws, W5, W6, W7, W8⟩ := W
  obtain ⟨xa, xl, xc, xs, x5, x6, x7, x8⟩ := x
  simp only [TV.CapS] at *
  obtain ⟨n, hn⟩ : ∃ n, xs.length = n := ⟨_, rfl⟩
  have hxl : n = xl := hn.symm.trans k5.1.1
  have hwl : n + 1 = wl := by have := k4.1.1; simp only at this; omega
  subst hxl hwl
  have n23 : 2 ≤ n ∧ n ≤ 3 := by omega
  have kw : IntsAt V wa (n + 1) ws := k4.1
  have kx : IntsAt V xa n xs := k5.1
  obtain ⟨wb, wo, rfl, -⟩ := ints_cell kw (by omega)
  rw [hn] at SH1 holen
  have dw : ¬ wc = 1 := by omega
  have dn1 : ¬ (n : Int) + 1 < 1 := by omega
  have hwc : n + 1 ≤ wc := c1.1
  have hwm : wc ≤ 9223372036854775807 := c1.2
  obtain ⟨outs, houts⟩ : ∃ l, outS ws xs s = l := ⟨_, rfl⟩
  have hch : chanS ws xs s = outs.set 0 1 := by unfold chanS; rw [houts]
  rw [houts] at SH1 hofit holen OF0
  rw [hch] at CR TI
  obtain ⟨p, hp⟩ : ∃ p, planOf ws xs s = p := ⟨_, rfl⟩
  rw [hp] at CR KR OF0 TI hsm hps
  obtain ⟨NS, hNS⟩ : ∃ N, p.m * p.n = N := ⟨_, rfl⟩
  obtain ⟨NC, hNC⟩ : ∃ N, p.C * p.K * p.L = N := ⟨_, rfl⟩
  rw [hNS] at CR TI
  rw [hNC] at KR TI
  have SH2 := Lib.hid SH1
  have ST := Lib.hid (fun w1 (h1 : IntsAt w1 xa n xs) A c (h2 : IntsAt w1 A n outs) => winstarts_any A n c outs xa n xc xs s w1 h2 h1 (by omega) (by omega) CR.1 NS CR.2.1 (by omega) hs.2)
  have OFF := Lib.hid (fun w1 (h1 : IntsAt w1 xa n xs) (h2 : IntsAt w1 (some ⟨wb, wo, none⟩) (n + 1) ws) => places_any xa n xc xs (some ⟨wb, wo + 1, none⟩) n (wc - 1) (ws.drop 1) 1 w1 h1 (ints_drop h2) KR.1 NC KR.2 (by omega) (by omega))
  have hNS6 : NS ≤ 65536 := by have := (rightS_parts CR.1).2.2.2; omega
  have hNS1 : 0 < NS := by rw [← hNS]; exact Nat.mul_pos (by omega) (by omega)
  have hNC1 : 0 < NC := by rw [← hNC]; exact Nat.mul_pos (Nat.mul_pos (by omega) (by omega)) (by omega)
  have hNC6 : NC ≤ 65536 := by have := (rightS_parts KR.1).2.2.2; omega
  have rs := Lib.hid (fun i => placeL_range (zs := outs.set 0 1) (s := s) f2 i)
  have ro := Lib.hid (fun i => placeL_range (zs := ws.drop 1) (s := 1) f2 i)
  obtain ⟨starts, hst⟩ : ∃ f, placeL xs (outs.set 0 1) s = f := ⟨_, rfl⟩
  obtain ⟨offs, hof⟩ : ∃ f, placeL xs (ws.drop 1) 1 = f := ⟨_, rfl⟩
  simp only [hst] at ST rs TI
  simp only [hof] at OFF ro TI
  obtain ⟨PO, hPO⟩ : ∃ k, p.O = k := ⟨_, rfl⟩
  rw [hPO] at OF0 TI hsm
  have hPO4 : PO ≤ 1024 := hsm.1
  have KW := Lib.hid (fun w1 (hb : Below V.heap.size V w1) => And.intro (kw.kept hb) (kx.kept hb))
  have KC := Lib.hid (fun w1 (hb : Below V.heap.size V w1) => And.intro (cell_later hb k2) (And.intro (cell_later hb k3) (cell_later hb k1)))
  have kk1 : V.cell? ⟨Bw, 0, none⟩ = some (.slice (some ⟨wb, wo, none⟩) (n + 1) wc) := k1
  have kk2 : V.cell? ⟨Bx, 0, none⟩ = some (.slice xa n xc) := k2
  have kk3 : V.cell? ⟨Bs, 0, none⟩ = some (.int .i64 s) := k3
  have HOF := Lib.hid hofit
  have HOL := Lib.hid holen
  have OF1 := Lib.hid OF0
  have TI1 := Lib.hid TI
  have H0 := Lib.hid h0
  have hY := Lib.hid hY0
  clear SH SH1 F hsm hps hform f1 f2 f3 f4 CR KR OF0 TI hout hofit holen k1 k2 k3 k4 k5 kw kx hn hch hp hNS hNC hst hof hPO houts hE h0 hY0 c1 c2
  refine (callsIn_wide (n := 1)).1 ?_
  refine callsIn_of_wp Try.func47 rfl trivial ?_ rfl
  simp only [Try.ntmps47, List.size_toArray, List.length_cons, List.length_nil, Nat.reduceAdd, Nat.reduceSub, Array.replicate_succ, Array.replicate_zero, List.push_toArray, List.append_toArray, List.nil_append, List.cons_append]
  refine wpIn_wide.2 ?_
  go_wp2_with fail
  refine SH2.out.mono ?_
  rintro e w2 ⟨A, oc, rfl, ho, hb2⟩
  obtain ⟨g, c', hv⟩ := Joins.ownsRow_form ho (by omega)
  simp only [Value.slice.injEq] at hv
  obtain ⟨rfl, -, rfl⟩ := hv
  have IO := Lib.hid (fun w1 (hb : Below w2.heap.size w2 w1) => (row_ints ho (by omega) HOF.out).kept hb)
  have B2 := Lib.hid hb2
  have SKF := Lib.hid (fun w1 (hb : Below w2.heap.size w2 w1) => KC.out w1 (B2.out.trans (hb.mono B2.out.size)))
  have ST2 := Lib.hid (fun w1 (hb : Below w2.heap.size w2 w1) => ST.out w1 (KW.out w1 (B2.out.trans (hb.mono B2.out.size))).2 (some ⟨g, 0, none⟩) oc (IO.out w1 hb))
  have OF2 := Lib.hid (fun w1 (hb : Below w2.heap.size w2 w1) => OFF.out w1 (KW.out w1 (B2.out.trans (hb.mono B2.out.size))).2 (KW.out w1 (B2.out.trans (hb.mono B2.out.size))).1)
  clear hb2 ho SH2 ST OFF kk1 kk2 kk3
  go_upto_region 2 with (fail)
  have SK := Lib.hid (fun w' (hb : Below w2.heap.size w2 w') => (show w'.cell? ⟨Bx, 0, none⟩ = some (.slice xa n xc) ∧ w'.cell? ⟨Bs, 0, none⟩ = some (.int .i64 s) ∧ w'.cell? ⟨Bw, 0, none⟩ = some (.slice (some ⟨wb, wo, none⟩) (n + 1) wc) from ⟨(SKF.out w' hb).1, (SKF.out w' hb).2.1, (SKF.out w' hb).2.2⟩))
  have t1 := Lib.hid (show Below w2.heap.size w2 w2.drew from (Below.refl _ _).drew)
  refine wp_region_held_drew (S := fun w' => w'.cell? ⟨Bx, 0, none⟩ = some (.slice xa n xc) ∧ w'.cell? ⟨Bs, 0, none⟩ = some (.int .i64 s) ∧ w'.cell? ⟨Bw, 0, none⟩ = some (.slice (some ⟨wb, wo, none⟩) (n + 1) wc)) (by kernel_rfl) (SK.out _ t1.out) (fun hHeld => ?_)
  refine held_take 0 (.slice (some ⟨g, 0, none⟩) n oc) rfl (by kernel_rfl) (by kernel_rfl) (by kernel_rfl) (fun _ _ _ h => h) (by rfl) (by intro w' hS; go_simp) (by assumption) ?_
  try simp only [Act.put, List.setIfInBounds_toArray, List.set_cons_zero, List.set_cons_succ]
  refine held_take 1 (.slice xa n xc) rfl (by kernel_rfl) (by kernel_rfl) (by kernel_rfl) (fun _ _ _ h => h) (by rfl) (by intro w' hS; go_simp) (by assumption) ?_
  try simp only [Act.put, List.setIfInBounds_toArray, List.set_cons_zero, List.set_cons_succ]
  refine held_take 2 (.int .i64 s) rfl (by kernel_rfl) (by kernel_rfl) (by kernel_rfl) (fun _ _ _ h => h) (by rfl) (by intro w' hS; go_simp) (by assumption) ?_
  try simp only [Act.put, List.setIfInBounds_toArray, List.set_cons_zero, List.set_cons_succ]
  refine held_take 4 (.slice xa n xc) rfl (by kernel_rfl) (by kernel_rfl) (by kernel_rfl) (fun _ _ _ h => h) (by rfl) (by intro w' hS; go_simp) (by assumption) ?_
  try simp only [Act.put, List.setIfInBounds_toArray, List.set_cons_zero, List.set_cons_succ]
  refine held_take 5 (.slice (some ⟨wb, wo, none⟩) (n + 1) wc) rfl (by kernel_rfl) (by kernel_rfl) (by kernel_rfl) (fun _ _ _ h => h) (by rfl) (by intro w' hS; go_simp) (by assumption) ?_
  try simp only [Act.put, List.setIfInBounds_toArray, List.set_cons_zero, List.set_cons_succ]
  refine held_take 6 (.slice (some ⟨wb, wo + 1, none⟩) n (wc - 1)) rfl (by kernel_rfl) (by kernel_rfl) (by kernel_rfl) (fun _ _ _ h => h) (by rfl) (by intro w' hS; go_simp) (by assumption) ?_
  try simp only [Act.put, List.setIfInBounds_toArray, List.set_cons_zero, List.set_cons_succ]
  refine held_call 3 (by kernel_rfl) rfl (by rfl) (fun K hK => ?_)
  go_simp
  refine (ST2.out w2.drew t1.out).mono ?_
  rintro e wq1 ⟨A1, d1, rfl, o1, hb⟩
  have bq1 := Lib.hid (t1.out.trans ((hb).mono t1.out.size))
  have o1' := Lib.hid o1
  clear o1
  go_wp2_with fail
  refine hK.out _ _ (SK.out _ bq1.out) (fun hHeld => ?_)
  try simp only [Act.put, List.setIfInBounds_toArray, List.set_cons_zero, List.set_cons_succ]
  refine held_call 7 (by kernel_rfl) rfl (by rfl) (fun K hK => ?_)
  go_simp
  refine (OF2.out wq1 bq1.out).mono ?_
  rintro e wq2 ⟨A2, d2, rfl, o2, hb⟩
  have bq2 := Lib.hid (bq1.out.trans ((hb).mono bq1.out.size))
  have o2' := Lib.hid o2
  have bw1 := Lib.hid hb
  clear o2
  go_wp2_with fail
  refine hK.out _ _ (SK.out _ bq2.out) (fun hHeld => ?_)
  try simp only [Act.put, List.setIfInBounds_toArray, List.set_cons_zero, List.set_cons_succ]
  refine held_take 8 (.slice A1 NS d1) rfl (by kernel_rfl) (by kernel_rfl) (by kernel_rfl) (fun _ _ _ h => h) (by rfl) (by intro w' hS; go_simp) (by assumption) ?_
  try simp only [Act.put, List.setIfInBounds_toArray, List.set_cons_zero, List.set_cons_succ]
  refine held_take 9 (.slice A2 NC d2) rfl (by kernel_rfl) (by kernel_rfl) (by kernel_rfl) (fun _ _ _ h => h) (by rfl) (by intro w' hS; go_simp) (by assumption) ?_
  try simp only [Act.put, List.setIfInBounds_toArray, List.set_cons_zero, List.set_cons_succ]
  refine wpAnyH_done (by kernel_rfl) ?_ _
  have bV := Lib.hid (B2.out.trans (bq2.out.mono B2.out.size))
  have o3 := row_kept o1'.out bw1.out
  have o4 := o2'.out
  obtain ⟨g1, e1, hv1⟩ := Joins.ownsRow_form o3 hNS1
  obtain ⟨g2, e2, hv2⟩ := Joins.ownsRow_form o4 hNC1
  simp only [Value.slice.injEq] at hv1 hv2
  obtain ⟨rfl, -, rfl⟩ := hv1
  obtain ⟨rfl, -, rfl⟩ := hv2
  obtain ⟨N0, hN0⟩ : ∃ N, V.heap.size = N := ⟨_, rfl⟩
  obtain ⟨N1, hN1⟩ : ∃ N, wq2.heap.size = N := ⟨_, rfl⟩
  have l1 : N0 ≤ g1 ∧ g1 < N1 := by
    have a := (o3.lt g1 rfl).1
    have b := (o3.lt g1 rfl).2
    have c := B2.out.size
    have d : w2.drew.heap.size = w2.heap.size := rfl
    omega
  have l2 : N0 ≤ g2 ∧ g2 < N1 := by
    have a := (o4.lt g2 rfl).1
    have b := (o4.lt g2 rfl).2
    have c := B2.out.size
    have d := bq1.out.size
    omega
  have mapfit : ∀ (f : Nat → Int) (N : Nat), (∀ i, 0 ≤ f i ∧ f i ≤ 65536) → Fits ((List.range N).map f) := by
    intro f N hf y hy
    obtain ⟨i, -, rfl⟩ := List.mem_map.1 hy
    have := hf i
    omega
  have I1 := Lib.hid (row_ints o3 (by omega) (mapfit starts NS rs.out))
  have I2 := Lib.hid (row_ints o4 (by omega) (mapfit offs NC ro.out))
  obtain ⟨OO, hOO⟩ : ∃ OO : BSet, (fun k => False ∨ (N0 ≤ k ∧ k < N1)) = OO := ⟨_, rfl⟩
  have hJ : J [] OO wq2 := by
    rw [← hOO]
    refine sJ [] _ _ _ _ H0.out ⟨bV.out.os, bV.out.tape, bV.out.output, bV.out.size, fun _ h => h.elim, fun k hk => ?_, fun k hk => ?_, fun k hk _ => bV.out.block k hk⟩
    · rcases hk with h | h
      · exact h.elim
      · exact .inr (by omega)
    · rcases hk with h | h
      · exact h.elim
      · exact .inr (by omega)
  have J0 : Hid (J (tchP (fun i => (starts i).toNat) (fun c => (offs c).toNat) NS NC 0 0 0) OO wq2) := Lib.hid (by rw [tchP_start]; exact hJ)
  have O1 : Hid (OO g1) := Lib.hid (by rw [← hOO]; exact .inr l1)
  have O2 : Hid (OO g2) := Lib.hid (by rw [← hOO]; exact .inr l2)
  have cO : wq2.cell? ⟨g, 0, none⟩ = some (.int .i64 PO) := by
    rcases (IO.out wq2 bq2.out).2.2.2 with h4 | ⟨b, off, ha, hc⟩
    · omega
    · cases ha
      have := hc 0 (by omega)
      rwa [Nat.zero_add, OF1.out] at this
  have FT1 := Lib.hid (fun i (hi : i < NS) => (show ((List.range NS).map starts).getD i 0 = (((starts i).toNat : Nat) : Int) ∧ (starts i).toNat ≤ 65536 from by
    have := rs.out i
    refine ⟨?_, by omega⟩
    rw [List.getD_eq_getElem?_getD, List.getElem?_map, List.getElem?_range hi]
    simp
    omega))
  have FT2 := Lib.hid (fun i (hi : i < NC) => (show ((List.range NC).map offs).getD i 0 = (((offs i).toNat : Nat) : Int) ∧ (offs i).toNat ≤ 65536 from by
    have := ro.out i
    refine ⟨?_, by omega⟩
    rw [List.getD_eq_getElem?_getD, List.getElem?_map, List.getElem?_range hi]
    simp
    omega))
  have TS := Lib.hid (fun k i c (hk : k < PO) (hi : i < NS) (hc : c < NC) => (show ∃ r, touchL ws xs s = _ from by
    obtain ⟨r, hr⟩ := tchP_split (fun i => (starts i).toNat) (fun c => (offs c).toNat) NS NC hk hi hc
    exact ⟨r, TI1.out.symm.trans hr⟩))
  obtain ⟨sl, hsl⟩ : ∃ l, (List.range NS).map starts = l := ⟨_, rfl⟩
  obtain ⟨ol, hol⟩ : ∃ l, (List.range NC).map offs = l := ⟨_, rfl⟩
  obtain ⟨S, hS⟩ : ∃ f : Nat → Nat, (fun i => (starts i).toNat) = f := ⟨_, rfl⟩
  obtain ⟨D, hD⟩ : ∃ f : Nat → Nat, (fun c => (offs c).toNat) = f := ⟨_, rfl⟩
  have FT1' : Hid (∀ i, i < NS → sl.getD i 0 = ((S i : Nat) : Int) ∧ S i ≤ 65536) := Lib.hid (by rw [← hsl, ← hS]; exact FT1.out)
  have FT2' : Hid (∀ i, i < NC → ol.getD i 0 = ((D i : Nat) : Int) ∧ D i ≤ 65536) := Lib.hid (by rw [← hol, ← hD]; exact FT2.out)
  have TE : Hid (touchL ws xs s = tch1 S D NS NC PO) := Lib.hid (by rw [← hS, ← hD]; exact TI1.out.symm)
  rw [hsl] at I1
  rw [hol] at I2
  rw [hS, hD] at J0
  simp only [hS, hD] at TS
  have NN := Lib.hid (And.intro hN0 (And.intro hN1 hOO))
  clear o3 o4 l1 l2 mapfit hJ FT1 FT2 hsl hol hS hD hN0 hN1 hOO SK t1 bq1 bw1 o1' o2' hHeld rs ro OF1 IO TI1 HOF HOL KW KC ST2 OF2 SKF
  go_wp2_with fail
  refine (wpIn_wide (n := 1)).1 ?_
  gi_loopw [34] (fun v wr => ∃ k : Nat, k ≤ PO ∧ v = .int .i64 k ∧ Hid (J (tchP S D NS NC k 0 0) OO wr) ∧ Hid (IntsAt wr (some ⟨g1, 0, none⟩) NS sl) ∧ Hid (IntsAt wr (some ⟨g2, 0, none⟩) NC ol)) (fun v _ => PO - (intOf v).toNat)
  case atStart => exact ⟨0, Nat.zero_le _, rfl, J0, I1, I2⟩
  case round =>
    clear cO
    obtain ⟨k, hk, rfl, hj, i1, i2⟩ := hrel
    by_cases hkl : k < PO
    · gi_wp2_with fail
      gi_loopw [39] (fun v wr => ∃ i : Nat, i ≤ NS ∧ v = .int .i64 i ∧ Hid (J (tchP S D NS NC k i 0) OO wr) ∧ Hid (IntsAt wr (some ⟨g1, 0, none⟩) NS sl) ∧ Hid (IntsAt wr (some ⟨g2, 0, none⟩) NC ol)) (fun v _ => NS - (intOf v).toNat)
      case atStart => exact ⟨0, Nat.zero_le _, rfl, hj, i1, i2⟩
      case round =>
        clear hj i1 i2
        obtain ⟨i, hi, rfl, hj, i1, i2⟩ := hrel
        by_cases hil : i < NS
        · have cs : ∃ sv : Nat, S i = sv ∧ sv ≤ 65536 ∧ wr.cell? ⟨g1, i, none⟩ = some (.int .i64 sv) := by
            obtain ⟨q1, q2⟩ := FT1'.out i hil
            refine ⟨S i, rfl, q2, ?_⟩
            rcases i1.out.2.2.2 with h4 | ⟨b, off, ha, hc⟩
            · omega
            · cases ha
              have := hc i hil
              rwa [Nat.zero_add, q1] at this
          obtain ⟨sv, hsv, hsv6, cs⟩ := cs
          have HSV := Lib.hid hsv
          clear hsv
          gi_wp2_with fail
          gi_loopw [46] (fun v wr => ∃ c : Nat, c ≤ NC ∧ v = .int .i64 c ∧ Hid (J (tchP S D NS NC k i c) OO wr) ∧ Hid (IntsAt wr (some ⟨g1, 0, none⟩) NS sl) ∧ Hid (IntsAt wr (some ⟨g2, 0, none⟩) NC ol)) (fun v _ => NC - (intOf v).toNat)
          case atStart => exact ⟨0, Nat.zero_le _, rfl, hj, i1, i2⟩
          case round =>
            clear hj i1 i2 cs
            obtain ⟨c, hc, rfl, hj, i1, i2⟩ := hrel
            by_cases hcl : c < NC
            · have cd : ∃ dv : Nat, D c = dv ∧ dv ≤ 65536 ∧ wr.cell? ⟨g2, c, none⟩ = some (.int .i64 dv) := by
                obtain ⟨q1, q2⟩ := FT2'.out c hcl
                refine ⟨D c, rfl, q2, ?_⟩
                rcases i2.out.2.2.2 with h4 | ⟨b, off, ha, hcc⟩
                · omega
                · cases ha
                  have := hcc c hcl
                  rwa [Nat.zero_add, q1] at this
              obtain ⟨dv, hdv, hdv6, cd⟩ := cd
              obtain ⟨r, hr⟩ := TS.out k i c hkl hil hcl
              have hkN : k * NS ≤ 1024 * 65536 := Nat.mul_le_mul (by omega) hNS6
              have hkM : k * NC ≤ 1024 * 65536 := Nat.mul_le_mul (by omega) hNC6
              have hX : tchX S D NS NC k i c = (k * NS + i, k * NC + c, sv + dv) := by unfold tchX; rw [HSV.out, hdv]
              rw [hX] at hr
              obtain ⟨fn, tmps, assign, body, hy, hR0⟩ := yield_any 0 (hY.out _ _ () r OO wr hr hj.out trivial)
              have hP := tchP_c S D NS NC k i c
              rw [hX] at hP
              rw [← hP] at hR0
              have w1 : IntKind.i64.wrap ((k : Int) * (NS : Int)) = ((k * NS : Nat) : Int) := by rw [← Int.natCast_mul]; exact IntWalk.i64_in _ (by omega)
              have w3 : IntKind.i64.wrap ((k : Int) * (NC : Int)) = ((k * NC : Nat) : Int) := by rw [← Int.natCast_mul]; exact IntWalk.i64_in _ (by omega)
              obtain ⟨qa, hqa⟩ : ∃ q, k * NS = q := ⟨_, rfl⟩
              obtain ⟨qb, hqb⟩ : ∃ q, k * NC = q := ⟨_, rfl⟩
              rw [hqa] at hkN w1 hy
              rw [hqb] at hkM w3 hy
              have w2 : IntKind.i64.wrap ((qa : Int) + (i : Int)) = ((qa + i : Nat) : Int) := by rw [← Int.natCast_add]; exact IntWalk.i64_in _ (by omega)
              have w4 : IntKind.i64.wrap ((qb : Int) + (c : Int)) = ((qb + c : Nat) : Int) := by rw [← Int.natCast_add]; exact IntWalk.i64_in _ (by omega)
              have w5 : IntKind.i64.wrap ((sv : Int) + (dv : Int)) = ((sv + dv : Nat) : Int) := by rw [← Int.natCast_add]; exact IntWalk.i64_in _ (by omega)
              obtain ⟨ra, hra⟩ : ∃ q, qa + i = q := ⟨_, rfl⟩
              obtain ⟨rb, hrb⟩ : ∃ q, qb + c = q := ⟨_, rfl⟩
              obtain ⟨rc, hrc⟩ : ∃ q, sv + dv = q := ⟨_, rfl⟩
              rw [hra] at w2 hy
              rw [hrb] at w4 hy
              rw [hrc] at w5 hy
              have hR : RoundIn Fence.wide 0 Try.prog l fn tmps assign body wr (fun e W' => ∃ bb : Bool, e = .returned (.bool bb) ∧ RdStep (fun k => False ∨ OO k) wr W' ∧ (bb = true → J (tchP S D NS NC k i (c + 1)) OO W') ∧ (bb = false → Jx (tchP S D NS NC k i (c + 1)) OO W')) := by
                refine RoundIn.mono (show RoundIn Fence.wide 0 Try.prog l fn tmps assign body wr _ from hR0) ?_
                rintro e W' ⟨hrd, (⟨he, h⟩ | ⟨he, h⟩)⟩
                · exact ⟨true, he, hrd, fun _ => h, fun h' => by cases h'⟩
                · exact ⟨false, he, hrd, fun h' => (by cases h'), fun _ => h⟩
              have HR := Lib.hid hR
              simp only [triV] at hy
              clear hR0 hR hX hP hr hdv hqa hqb hra hrb hrc hkN hkM hj
              gi_wp2_with fail
              refine HR.out.mono ?_
              rintro e W4 ⟨bb, rfl, hrd, h1, h2⟩
              cases bb
              · have S4 := Lib.hid (h2 rfl)
                clear h1 h2 hrd hy cd w1 w2 w3 w4 w5
                gi_wp2_with fail
                refine bodyPost_ret (results_none rfl _ _ _) rfl ?_
                exact ⟨⟨_, rfl⟩, .inr ⟨_, _, S4.out⟩⟩
              · have S4 := Lib.hid (h1 rfl)
                have I14 := Lib.hid (i1.out.rd hrd (.inr O1.out))
                have I24 := Lib.hid (i2.out.rd hrd (.inr O2.out))
                clear h1 h2 hrd hy cd w1 w2 w3 w4 w5
                gi_wp2_with fail
                go_roundw
                case rel => exact ⟨c + 1, by omega, by go_num, S4, I14, I24⟩
                case measure => (simp [intOf]; try omega)
            · obtain rfl : c = NC := by omega
              rw [tchP_i] at hj
              gi_wp2_with fail
              go_roundw
              case rel => exact ⟨i + 1, by omega, by go_num, hj, i1, i2⟩
              case measure => (simp [intOf]; try omega)
        · obtain rfl : i = NS := by omega
          rw [tchP_k] at hj
          gi_wp2_with fail
          go_roundw
          case rel => exact ⟨k + 1, by omega, by go_num, hj, i1, i2⟩
          case measure => (simp [intOf]; try omega)
    · obtain rfl : k = PO := by omega
      rw [tchP_end, ← TE.out] at hj
      gi_wp2_with fail
      refine bodyPost_end (results_none rfl _ _ _) rfl ?_
      exact ⟨⟨_, rfl⟩, .inl ⟨_, hj.out⟩⟩
theorem touch_iter (Bw Bx Bs : Nat) (W x : TV) (s : Int) (c1 : W.CapS) (c2 : x.CapS) (hs1 : -9223372036854775808 ≤ s) (hs2 : s ≤ 9223372036854775807) :
    IterOf Try.prog 47 #[.pointer (some ⟨Bw, 0, none⟩), .pointer (some ⟨Bx, 0, none⟩), .pointer (some ⟨Bs, 0, none⟩)] (fun _ => False) (TouchC Bw Bx Bs W x s) (touchL W.ss x.ss s) triV (fun _ _ _ _ => True) := by
  by_cases hE : toldE W.ss x.ss s = 0
  · exact touch_ok Bw Bx Bs W x s c1 c2 hE
  · exact touch_none Bw Bx Bs W x s c1 c2 hs1 hs2 hE
end Go.Proofs.Ytapelgjnnccfoaa

/-
  A row of one's own that is not the iterator's; numbers added to its cells.
-/
namespace Go.Proofs.Ytapelgjnnccfoaa
open Go.RowKit Go.Shelf
set_option linter.unusedVariables false
set_option linter.unusedSimpArgs false

/-- A row of one's own in block g, which is not the iterator's. -/
def RowO (O : BSet) (V : World) (B : Nat) (t : TypeId) (g n c : Nat) (zs : List Int) : Prop := V.ownsRow B t 1 (.slice (some ⟨g, 0, none⟩) n c) n (zs.map (Value.int .i64)) ∧ ¬ O g
section
variable {O O' : BSet} {V V' : World} {B : Nat} {t : TypeId} {g n c : Nat} {zs : List Int}
theorem RowO.lt (h : RowO O V B t g n c zs) : B ≤ g ∧ g < V.heap.size := h.1.lt g rfl
theorem RowO.stable (h : RowO O V B t g n c zs) (hs : ItStep O V O' V') : RowO O' V' B t g n c zs := by
  obtain ⟨h1, h2⟩ := row_keeps h.1 (fun q hq => by cases hq; exact h.2) hs
  exact ⟨h1, h2 g rfl⟩
theorem RowO.below (h : RowO O V B t g n c zs) (hb : Below V.heap.size V V') : RowO O V' B t g n c zs := h.stable (ItStep.of_below hb)
theorem RowO.other (h : RowO O V B t g n c zs) {p : Addr} (v : Value) (hp : g ≠ p.block) : RowO O (V.setCell p v) B t g n c zs :=
  ⟨row_apart h.1 (fun q hq => by cases hq; exact hp), h.2⟩
theorem RowO.set (h : RowO O V B t g n c zs) (j : Nat) (x : Int) : RowO O (V.setCell ⟨g, j, none⟩ (.int .i64 x)) B t g n c (zs.set j x) := by
  obtain ⟨h1, -⟩ := h.1.stored j (.int .i64 x)
  rw [← List.map_set] at h1
  exact ⟨h1, h.2⟩
theorem RowO.len (h : RowO O V B t g n c zs) : zs.length = n := by have := h.1.1; simpa using this
theorem RowO.cell (h : RowO O V B t g n c zs) {j : Nat} (hj : j < n) : V.cell? ⟨g, j, none⟩ = some (.int .i64 (zs.getD j 0)) ∧ V.frozen? ⟨g, j, none⟩ = false := by
  refine ⟨?_, h.1.frozenAt j⟩
  have e := h.1.cellAt j (by omega)
  have hl := h.len
  rw [List.getElem?_map, List.getElem?_eq_getElem (by omega)] at e
  rw [e]
  simp [List.getD, List.getElem?_eq_getElem (show j < zs.length by omega)]
end
/-- What touchL hands over lies within the tensors. -/
theorem touch_in {w x : List Int} {s : Int} {t : Tri} (h : t ∈ touchL w x s) : toldE w x s = 0 ∧ (t.1 : Int) < prodI (outS w x s) ∧ (t.2.1 : Int) < prodI w ∧ (t.2.2 : Int) < prodI x := by
  by_cases hE : toldE w x s = 0
  · unfold touchL at h
    rw [if_pos hE] at h
    have F := plan_facts hE
    obtain ⟨a, b, c⟩ := PlanN.all_in F.ok h
    have o := F.out
    have k := F.kernel
    have i := F.inn
    refine ⟨hE, ?_, ?_, ?_⟩
    · rw [← o]; exact_mod_cast a
    · rw [← k]; exact_mod_cast b
    · rw [← i]; exact_mod_cast c
  · unfold touchL at h
    rw [if_neg hE] at h
    cases h
end Go.Proofs.Ytapelgjnnccfoaa

/-
  A range over a function where a round's assignment makes the variable's block.
-/
namespace Go.Proofs.Ytapelgjnnccfoaa
open Go.RowKit Go.Shelf
set_option linter.unusedVariables false
set_option linter.unusedSimpArgs false

theorem alloc_putObj (W : World) (o o' : Obj) {l : Nat} (hl : l < W.heap.size) : (W.alloc o).putObj l o' = (W.putObj l o').alloc o := by
  have e : (W.heap.push o).setIfInBounds l o' = (W.heap.setIfInBounds l o').push o := by
    apply Array.ext'
    rw [Array.toList_setIfInBounds, Array.toList_push, Array.toList_push, Array.toList_setIfInBounds, List.set_append_left _ _ (by simpa using hl)]
  unfold World.alloc World.putObj
  simp only [e]

/-- The statement 'for .. := range g { .. }' by the iterator's contract. -/
theorem range_lawA {P : Program} {n : Nat} {g : Operand} {ps : Array Tmp} {assign body : Code} {Q : Exit → Act → World → Prop} {a : Act} {w : World} {gf : FuncId} {lb : Array Value} {R : BSet} {C : World → Prop}
    {α β : Type} {xs : List α} {encs : α → β → Array Value} {Enc : α → β → BSet → World → Prop}
    (hg : a.eval g = .func (.func gf) #[] lb) (eg : ∀ args w, (callFunc gf args).run P w = .ok (.enter gf args) w)
    (hseq : IterOf P gf lb R C xs encs Enc) (hps : ∀ x y, (encs x y).size = ps.size) (hR : ∀ k, R k → k < w.heap.size)
    (hkeep : ∀ x y O W D l o o', Enc x y O W → W.heap[l]? = some o → o.isCells = false → Enc x y (fun k => O k ∨ k = D ∨ k = l) (W.putObj l o'))
    (hC : ∀ W', Below w.heap.size w W' → C W')
    (I : List α → BSet → World → Prop) (Ix : Code → List α → BSet → World → Prop) (sI : ∀ p, Stable (I p)) (sIx : ∀ c p, Stable (Ix c p)) (h0 : I [] (fun _ => False) w)
    (hround : ∀ (l : Nat) (pre : List α) (x : α) (y : β) (rest : List α) (O : BSet) (W W2 : World), xs = pre ++ x :: rest → W2.heap.size = W.heap.size → I pre O W2 → Enc x y O W2 →
      assign.wpIn (Fence.wide.inRound l) 0 P (Exit.then (fun a' W' => ∃ o, W' = W.alloc o ∧ body.wpIn (Fence.wide.inRound l) 0 P (rdPost (fun k => R k ∨ O k) O I Ix (pre ++ [x]) W2) a' (W2.alloc o)) (fun _ _ _ => False))
        { tmps := (ps.zip (encs x y)).foldl (fun t (p, v) => t.setIfInBounds p v) a.tmps, defers := [] } W)
    (hdone : ∀ (D : Nat) (O : BSet) (W : World), w.heap.size ≤ D → O D → W.heap[D]? = some (.deferred (some [])) → I xs O W → Q .normal { a with defers := { target := .collected D, args := #[] } :: a.defers } W)
    (hstop : ∀ (D : Nat) (O : BSet) (c : Code) (pre : List α) (W : World), w.heap.size ≤ D → O D → W.heap[D]? = some (.deferred (some [])) → Ix c pre O W → c.wpIn Fence.wide n P Q { a with defers := { target := .collected D, args := #[] } :: a.defers } W) :
    (Code.rangeFunc g ps assign body).wpIn Fence.wide n P Q a w := by
  refine wpIn_rangeFunc ?_
  intro fn hfn
  obtain ⟨rec, hrec⟩ : ∃ rec : LoopState → Option Code → Loop, rec = fun st pe => { state := st, pending := pe, fn, tmps := a.tmps, params := ps, assign, body, defers := w.heap.size } := ⟨_, rfl⟩
  obtain ⟨W1, hW1⟩ : ∃ W1, (w.alloc (.deferred (some []))).alloc (.loop (rec .ready none)) = W1 := ⟨_, rfl⟩
  obtain ⟨D, hD⟩ : ∃ D, w.heap.size = D := ⟨_, rfl⟩
  obtain ⟨l, hl⟩ : ∃ l, D + 1 = l := ⟨_, rfl⟩
  have hb1 : Below w.heap.size w W1 := by rw [← hW1]; exact ((Below.refl _ w).alloc (Nat.le_refl _) _).alloc (by simp) _
  have hL1 : W1.heap[l]? = some (.loop (rec .ready none)) := by
    rw [← hW1, ← hl, ← hD]
    have := World.alloc_heap_new (w.alloc (.deferred (some []))) (.loop (rec .ready none))
    rwa [World.size_alloc] at this
  have hK1 : W1.heap[D]? = some (.deferred (some [])) := by rw [← hW1, ← hD]; exact (Below.heap_alloc _ _ _ (by simp)).trans (World.alloc_heap_new w _)
  -- the caller's set: the iterator's blocks and the two of the loop itself
  have hI1 : I [] (fun k => False ∨ k = D ∨ k = l) W1 :=
    sI [] _ w _ W1 h0 ⟨hb1.os, hb1.tape, hb1.output, hb1.size, fun _ h => .inl h, fun k hk => by rcases hk with h | h | h; exact h.elim; exact .inr (by omega); exact .inr (by omega),
      fun k hk => by rcases hk with h | h | h; exact h.elim; all_goals exact .inr (by rw [← hW1, h]; simp; omega), fun k hk _ => hb1.block k hk⟩
  have wide : ∀ {O O' : BSet} {A B : World}, ItStep O A O' B → ItStep (fun k => O k ∨ k = D ∨ k = l) A (fun k => O' k ∨ k = D ∨ k = l) B := fun {O O' A B} h =>
    ⟨h.os, h.tape, h.output, h.size, fun k hk => hk.elim (fun h1 => .inl (h.sub k h1)) .inr, fun k hk => by
      rcases hk with h1 | h1
      · rcases h.new k h1 with h2 | h2
        · exact .inl (.inl h2)
        · exact .inr h2
      · exact .inl (.inr h1), fun k hk => by
      rcases hk with h1 | h1
      · rcases h.top k h1 with h2 | h2
        · exact .inl (.inl h2)
        · exact .inr h2
      · exact .inl (.inr h1), fun k hk hn => h.block k hk (fun h1 => hn (.inl h1))⟩
  have kept : ∀ {O O' : BSet} {A B : World} {k : Nat} {o : Obj}, ItStep O A O' B → ¬ O k → A.heap[k]? = some o → (¬ O' k ∧ B.heap[k]? = some o) := fun {O O' A B k o} h hn hk =>
    ⟨not_own h (Array.getElem?_eq_some_iff.1 hk).1 hn, (h.block k (Array.getElem?_eq_some_iff.1 hk).1 hn).trans hk⟩
  refine ⟨l, [{ target := .collected D, args := #[] }], W1, { target := .fn (.func gf) lb, args := #[.func (.yield l) #[] #[]] }, W1, gf, #[.func (.yield l) #[] #[]] ++ lb, W1, ?_, ?_, fun _ _ => trivial, ?_, fun h => (by simp [Fence.wide] at h), ?_⟩
  · rw [← hW1, hrec, ← hl, ← hD]; exact run_enterLoop_outer _ _ _ _ _
  · simp only [resolve, hg]
    simp [go_sem]
  · simp [invoke, go_sem, eg]
  · refine callsIn_wide.2 ((hseq l
      (fun pre O W => I pre (fun k => O k ∨ k = D ∨ k = l) W ∧ W.heap[l]? = some (.loop (rec .ready none)) ∧ W.heap[D]? = some (.deferred (some [])) ∧ ¬ O l ∧ ¬ O D)
      (fun pre O W => ∃ c, Ix c pre (fun k => O k ∨ k = D ∨ k = l) W ∧ W.heap[l]? = some (.loop (rec .done (some c))) ∧ W.heap[D]? = some (.deferred (some [])) ∧ ¬ O l ∧ ¬ O D)
      (fun p O A O' B ⟨h1, h2, h3, h4, h5⟩ hs => ⟨sI p _ _ _ _ h1 (wide hs), (kept hs h4 h2).2, (kept hs h5 h3).2, (kept hs h4 h2).1, (kept hs h5 h3).1⟩)
      (fun p O A O' B ⟨c, h1, h2, h3, h4, h5⟩ hs => ⟨c, sIx c p _ _ _ _ h1 (wide hs), (kept hs h4 h2).2, (kept hs h5 h3).2, (kept hs h4 h2).1, (kept hs h5 h3).1⟩)
      ?_ W1 (hC W1 hb1) ⟨hI1, hL1, hK1, fun h => h, fun h => h⟩).mono ?_)
    · -- one round
      rintro pre x y rest O W hxs ⟨hi, hrl, hrD, hnl, hnD⟩ he
      have hne : D ≠ l := by omega
      have hlt : l < W.heap.size := (Array.getElem?_eq_some_iff.1 hrl).1
      have hy := run_yield (P := P) (args := encs x y) hrl (by rw [hrec]; exact hps x y)
      rw [hrec] at hy
      refine ⟨fn, _, assign, body, hy, roundIn_of_wpIn hfn ?_⟩
      have hRl : ¬ R l := fun h => by have := hR l h; omega
      have hRD : ¬ R D := fun h => by have := hR D h; omega
      have hl2 : (W.putObj l (.loop { rec .ready none with state := .busy })).heap[l]? = some (.loop { rec .ready none with state := .busy }) := World.putObj_heap_same hlt
      have hk2 : (W.putObj l (.loop { rec .ready none with state := .busy })).heap[D]? = some (.deferred (some [])) := (World.putObj_heap_other hne).trans hrD
      have st2 : ItStep (fun k => O k ∨ k = D ∨ k = l) W (fun k => O k ∨ k = D ∨ k = l) (W.putObj l (.loop { rec .ready none with state := .busy })) := ItStep.putObj W l _ (.inr (.inr rfl))
      refine wpIn_mono (hround l pre x y rest _ W _ hxs (by simp) (sI _ _ _ _ _ hi st2) (hkeep x y O W D l _ _ he hrl rfl)) ?_
      intro ea aa Wa hea
      cases ea with
      | normal => ?_
      | ret => exact hea
      | exit id => exact hea
      | goto t => exact hea
      | panic ch => exact hea
      | outgrown => exact hea
      obtain ⟨oo, hWa, hbd⟩ := hea
      rw [hWa]
      refine ⟨_, run_beginRound ((Below.heap_alloc W oo l hlt).trans hrl) (by rw [hrec]), ?_⟩
      rw [alloc_putObj W oo _ hlt]
      refine wpIn_mono hbd ?_
      have rd2 : RdStep (fun k => R k ∨ O k) W (W.putObj l (.loop { rec .ready none with state := .busy })) := RdStep.putObj W l _ (fun h => h.elim hRl hnl)
      have fin : ∀ (jump : Option Code) (W3 : World), RdStep (fun k => R k ∨ O k ∨ k = D ∨ k = l) (W.putObj l (.loop { rec .ready none with state := .busy })) W3 →
          (Instr.endRound l jump).run P W3 = .ok (.bool jump.isNone) (W3.putObj l (.loop (rec (if jump.isNone then .ready else .done) jump))) ∧
          (W3.putObj l (.loop (rec (if jump.isNone then .ready else .done) jump))).heap[l]? = some (.loop (rec (if jump.isNone then .ready else .done) jump)) ∧
          (W3.putObj l (.loop (rec (if jump.isNone then .ready else .done) jump))).heap[D]? = some (.deferred (some [])) ∧
          ItStep (fun k => O k ∨ k = D ∨ k = l) W3 (fun k => O k ∨ k = D ∨ k = l) (W3.putObj l (.loop (rec (if jump.isNone then .ready else .done) jump))) ∧
          RdStep (fun k => R k ∨ O k) W (W3.putObj l (.loop (rec (if jump.isNone then .ready else .done) jump))) := fun jump W3 hk3 => by
        have hl3 : W3.heap[l]? = _ := (hk3.block l (Array.getElem?_eq_some_iff.1 hl2).1 (.inr (.inr (.inr rfl)))).trans hl2
        have hD3 : W3.heap[D]? = _ := (hk3.block D (Array.getElem?_eq_some_iff.1 hk2).1 (.inr (.inr (.inl rfl)))).trans hk2
        have hr := run_endRound (P := P) jump hl3
        rw [hrec] at hr ⊢
        refine ⟨hr, World.putObj_heap_same (Array.getElem?_eq_some_iff.1 hl3).1, (World.putObj_heap_other hne).trans hD3, ItStep.putObj W3 l _ (.inr (.inr rfl)), ?_⟩
        rw [hrec] at rd2 hk3
        exact (rd2.trans (hk3.mono (fun k hk => hk.elim .inl (fun h => .inr (.inl h))))).trans (RdStep.putObj W3 l _ (fun h => h.elim hRl hnl))
      rintro e a3 W3 hp
      cases e with
      | normal =>
        obtain ⟨hk3, hi3⟩ := hp
        obtain ⟨hr, hl4, hk4, st, rd⟩ := fin none W3 hk3
        exact ⟨_, _, hr, rd, .inl ⟨rfl, sI _ _ _ _ _ hi3 st, hl4, hk4, hnl, hnD⟩⟩
      | ret =>
        obtain ⟨hk3, hi3⟩ := hp
        obtain ⟨hr, hl4, hk4, st, rd⟩ := fin (some .ret) W3 hk3
        exact ⟨_, _, hr, rd, .inr ⟨rfl, .ret, sIx _ _ _ _ _ _ hi3 st, hl4, hk4, hnl, hnD⟩⟩
      | exit id =>
        obtain ⟨hk3, hi3⟩ := hp
        obtain ⟨hr, hl4, hk4, st, rd⟩ := fin (some (.exit id)) W3 hk3
        exact ⟨_, _, hr, rd, .inr ⟨rfl, .exit id, sIx _ _ _ _ _ _ hi3 st, hl4, hk4, hnl, hnD⟩⟩
      | goto t =>
        obtain ⟨hk3, hi3⟩ := hp
        obtain ⟨hr, hl4, hk4, st, rd⟩ := fin (some (.goto t)) W3 hk3
        exact ⟨_, _, hr, rd, .inr ⟨rfl, .goto t, sIx _ _ _ _ _ _ hi3 st, hl4, hk4, hnl, hnD⟩⟩
      | panic ch => exact hp.elim
      | outgrown => exact hp.elim
    · -- behind the iterator
      have hne : D ≠ l := by omega
      rintro e W2 ⟨⟨v, rfl⟩, (⟨O, hi, hl2, hk, hnl, hnD⟩ | ⟨pre, O, c, hi, hl2, hk, hnl, hnD⟩)⟩
      · exact ⟨none, _, by have := run_endLoop (P := P) hl2 (by rw [hrec]; simp); rw [hrec] at this; exact this,
          hdone D _ _ (by omega) (.inr (.inl rfl)) ((World.putObj_heap_other hne).trans hk) (sI _ _ _ _ _ hi (ItStep.putObj W2 l _ (.inr (.inr rfl))))⟩
      · exact ⟨some c, _, by have := run_endLoop (P := P) hl2 (by rw [hrec]; simp); rw [hrec] at this; exact this,
          hstop D _ c pre _ (by omega) (.inr (.inl rfl)) ((World.putObj_heap_other hne).trans hk) (sIx _ _ _ _ _ _ hi (ItStep.putObj W2 l _ (.inr (.inr rfl))))⟩
end Go.Proofs.Ytapelgjnnccfoaa

/-
  Contracts of package fix: sums and dot products of lists.
-/
namespace Go.Proofs.Ytapelgjnnccfoaa
open Go.RowKit
set_option linter.unusedVariables false
set_option linter.unusedSimpArgs false

end Go.Proofs.Ytapelgjnnccfoaa
/-
  Contracts of package tensor: Scale, Add, Dot.
-/
namespace Go.Proofs.Ytapelgjnnccfoaa
open Go.RowKit
set_option linter.unusedVariables false
set_option linter.unusedSimpArgs false

end Go.Proofs.Ytapelgjnnccfoaa
/-
  Contracts of package tensor: Add.
-/
namespace Go.Proofs.Ytapelgjnnccfoaa
open Go.RowKit
set_option linter.unusedVariables false
set_option linter.unusedSimpArgs false

end Go.Proofs.Ytapelgjnnccfoaa
/-
  Contracts of package tensor: Dot; of the statements' file: small, right; the fixed answer of the statements of layer 4.
-/
namespace Go.Proofs.Ytapelgjnnccfoaa
open Go.RowKit
set_option linter.unusedVariables false
set_option linter.unusedSimpArgs false

theorem rightT_pos {ss : List Int} {n : Nat} (h : rightT ss n = true) : 0 < n := by
  obtain ⟨h1, h2⟩ := rightT_parts h
  have := prodI_pos (rightS_parts h1).2.2.1
  omega
theorem alikeT_parts {s1 s2 : List Int} {n1 n2 : Nat} (h : alikeT s1 n1 s2 n2 = true) : rightT s1 n1 = true ∧ rightT s2 n2 = true ∧ s1 = s2 ∧ n1 = n2 := by
  simp only [alikeT, Bool.and_eq_true] at h
  obtain ⟨⟨h1, h2⟩, h3⟩ := h
  have e := sameL_eq h3
  refine ⟨h1, h2, e, ?_⟩
  have x1 := (rightT_parts h1).2
  have x2 := (rightT_parts h2).2
  rw [← e] at x2
  omega

/-- The statements look at tensors of at most 50 sides and 600 cells. -/
def smallT (sl cl : Nat) : Bool := decide (sl ≤ 50) && decide (cl ≤ 600)

end Go.Proofs.Ytapelgjnnccfoaa
/-
  The contract of package conv's Go.
-/
namespace Go.Proofs.Ytapelgjnnccfoaa
open Go.RowKit Go.Shelf
attribute [local go_sem] Oper.semAt_some
set_option linter.unusedVariables false
set_option linter.unusedSimpArgs false

set_option maxRecDepth 100000 in
set_option maxHeartbeats 2000000 in
theorem convgo_no (W x : TV) (s : Int) (w : World) (h : W.At w) (h' : x.At w) (c1 : W.CapS) (c2 : x.CapS) (hs1 : -9223372036854775808 ≤ s) (hs2 : s ≤ 9223372036854775807) (hE : tensE W x s ≠ 0) :
    Calls Try.prog 14 #[.agg #[.slice W.sa W.sl W.sc, .slice W.ca W.cl W.cc], .agg #[.slice x.sa x.sl x.sc, .slice x.ca x.cl x.cc], .int .i64 s] w (NilT w (tensE W x s)) := by
  obtain ⟨wA, hwA, J1, z1, n1⟩ := grid_box w (.slice W.sa W.sl W.sc) (.slice W.ca W.cl W.cc)
  obtain ⟨wB, hwB, J2, z2, n2⟩ := grid_box wA (.slice x.sa x.sl x.sc) (.slice x.ca x.cl x.cc)
  obtain ⟨wC, hwC, J3, z3, n3⟩ := grid_box wB (.slice none 0 0) (.slice none 0 0)
  rw [n1.out] at J2
  rw [n2.out, n1.out] at J3
  have z12 := z1.out.trans (z2.out.mono z1.out.size)
  have z := Lib.hid (z12.trans (z3.out.mono z12.size))
  have J1' := Lib.hid ((J1.out.kept z2.out).kept z3.out)
  have J2' := Lib.hid (J2.out.kept z3.out)
  have nC : Hid (wC.heap.size = w.heap.size + 3) := Lib.hid (by rw [n3.out, n2.out, n1.out])
  clear z12 J1 J2 z1 z2 z3 n1 n2 n3
  have O := outshape_any W x s wC (h.kept z.out) (h'.kept z.out) c1 c2 hs1 hs2
  obtain ⟨j0, j1, -, -⟩ := J1'.out.see
  obtain ⟨i0, i1, -, -⟩ := J2'.out.see
  have O1 := Lib.hid (O.mono (fun e w' hh => hh.2 hE))
  obtain ⟨u, hu⟩ : ∃ u, tensE W x s = u := ⟨_, rfl⟩
  rw [hu] at O1 hE ⊢
  have hE' : ¬ u = 0 := hE
  clear O h h' c1 c2 hE hu
  go_enter Try.func14, Try.ntmps14
  go_upto_region 1 with (fail)
  rw [hwA.out, hwB.out, hwC.out]
  go_wp2_with fail
  refine O1.out.mono ?_
  rintro e w1 ⟨rfl, hb⟩
  have J3' := J3.out.kept hb
  obtain ⟨e0, e1, f0, f1⟩ := J3'.see
  obtain ⟨h0, h1, -, -⟩ := (J3'.set (.slice none 0 0) (.slice none 0 0)).see
  have P := Lib.hid (((z.out.trans (hb.mono z.out.size)).setCell (p := ⟨w.heap.size + 1 + 1, 0, none⟩) (by show w.heap.size ≤ w.heap.size + 1 + 1; omega) (.slice none 0 0)).setCell (p := ⟨w.heap.size + 1 + 1, 1, none⟩) (by show w.heap.size ≤ w.heap.size + 1 + 1; omega) (.slice none 0 0))
  clear hb J3'
  go_wp2_with fail
  refine bodyPost_ret (v := .tuple #[.agg #[.slice none 0 0, .slice none 0 0], .int .i64 u]) ?_ rfl ⟨rfl, P.out⟩
  simp [results, Try.results14, go_sem, h0, h1]

/-- Between two rounds: the boxes, and the cells of the answer as far as they are reckoned. -/
def GoI (K gs cs gc cc n N : Nat) (W x : TV) (os : List Int) (w : World) (pre : List Tri) (O : BSet) (V : World) : Prop :=
  Has O V w.heap.size #[.slice W.sa W.sl W.sc, .slice W.ca W.cl W.cc] 34 ∧ Has O V (w.heap.size + 1) #[.slice x.sa x.sl x.sc, .slice x.ca x.cl x.cc] 34 ∧ Has O V (w.heap.size + 2) #[.slice none 0 0, .slice none 0 0] 34 ∧
    Has O V K #[.slice (some ⟨gs, 0, none⟩) n cs, .slice (some ⟨gc, 0, none⟩) N cc] 34 ∧ RowO O V (w.heap.size + 3) 3 gs n cs os ∧ RowO O V (w.heap.size + 3) 56 gc N cc (runP N (goV W.cs x.cs) pre) ∧ Base w O V ∧ (∀ k, O k → k < V.heap.size)
theorem GoI.stable (K gs cs gc cc n N : Nat) (W x : TV) (os : List Int) (w : World) (pre : List Tri) : Stable (GoI K gs cs gc cc n N W x os w pre) := by
  rintro O V O' V' ⟨h1, h2, h3, h4, h5, h6, h7, h8⟩ hs
  exact ⟨h1.stable hs, h2.stable hs, h3.stable hs, h4.stable hs, h5.stable hs, h6.stable hs, h7.stable hs, fun k hk => (hs.top k hk).elim (fun h => Nat.lt_of_lt_of_le (h8 k h) hs.size) id⟩

set_option maxRecDepth 100000 in
set_option maxHeartbeats 8000000 in
theorem convgo_ok (W x : TV) (s : Int) (w : World) (h : W.At w) (h' : x.At w) (c1 : W.CapS) (c2 : x.CapS) (hs1 : -9223372036854775808 ≤ s) (hs2 : s ≤ 9223372036854775807) (hE : tensE W x s = 0) (N : Nat) (hN : prodI (outS W.ss x.ss s) = N) :
    Calls Try.prog 14 #[.agg #[.slice W.sa W.sl W.sc, .slice W.ca W.cl W.cc], .agg #[.slice x.sa x.sl x.sc, .slice x.ca x.cl x.cc], .int .i64 s] w (OkT w x.ss.length (outS W.ss x.ss s) N (runP N (goV W.cs x.cs) (touchL W.ss x.ss s))) := by
  have hrr : rightT W.ss W.cl = true ∧ rightT x.ss x.cl = true := by
    by_cases c : rightT W.ss W.cl = true ∧ rightT x.ss x.cl = true
    · exact c
    · rw [tensE_no c] at hE; omega
  have hT : toldE W.ss x.ss s = 0 := by rw [← tensE_yes hrr.1 hrr.2]; exact hE
  have hro := (told_parts hT).2.2
  have hN6 : N ≤ 65536 := by have := (rightS_parts hro).2.2.2; omega
  have hWp := (rightT_parts hrr.1).2
  have hxp := (rightT_parts hrr.2).2
  have TI := Lib.hid (fun t (ht : t ∈ touchL W.ss x.ss s) => (show t.1 < N ∧ t.2.1 < W.cl ∧ t.2.2 < x.cl from by
    obtain ⟨-, a, b, c⟩ := touch_in ht
    omega))
  obtain ⟨wA, hwA, J1, z1, n1⟩ := grid_box w (.slice W.sa W.sl W.sc) (.slice W.ca W.cl W.cc)
  obtain ⟨wB, hwB, J2, z2, n2⟩ := grid_box wA (.slice x.sa x.sl x.sc) (.slice x.ca x.cl x.cc)
  obtain ⟨wC, hwC, J3, z3, n3⟩ := grid_box wB (.slice none 0 0) (.slice none 0 0)
  rw [n1.out] at J2
  rw [n2.out, n1.out] at J3
  have z12 := z1.out.trans (z2.out.mono z1.out.size)
  have z := Lib.hid (z12.trans (z3.out.mono z12.size))
  have J1' := Lib.hid ((J1.out.kept z2.out).kept z3.out)
  have J2' := Lib.hid (J2.out.kept z3.out)
  have nC : Hid (wC.heap.size = w.heap.size + 3) := Lib.hid (by rw [n3.out, n2.out, n1.out])
  clear z12 J1 J2 z1 z2 z3 n1 n2 n3
  have O := outshape_any W x s wC (h.kept z.out) (h'.kept z.out) c1 c2 hs1 hs2
  obtain ⟨j0, j1, -, -⟩ := J1'.out.see
  obtain ⟨i0, i1, -, -⟩ := J2'.out.see
  have O1 := Lib.hid (O.mono (fun e w' hh => hh.1 hE))
  have HF := Lib.hid (outS_fits (s := s) (told_parts hT).1)
  have HO := Lib.hid (fun w1 A c n (hb : Below wC.heap.size wC w1) (h1 : IntsAt w1 A n (outS W.ss x.ss s)) => zeros_any A n c (outS W.ss x.ss s) w1 h1 hro N hN)
  have hn1 : 0 < x.ss.length := by have := (rightS_parts (rightT_parts hrr.2).1).1; omega
  have hn4 : x.ss.length ≤ 4 := (rightS_parts (rightT_parts hrr.2).1).2.1
  have hNp : 0 < N := by have := prodI_pos (rightS_parts hro).2.2.1; omega
  have HAt := Lib.hid (And.intro h h')
  have HC := Lib.hid (And.intro c1 c2)
  have hW0 : 0 < W.cl := rightT_pos hrr.1
  have hx0 : 0 < x.cl := rightT_pos hrr.2
  have fw := Lib.hid h.2.1.2.2.1
  have fx := Lib.hid h'.2.1.2.2.1
  obtain ⟨wcb, wco, hwc, hwl⟩ := ints_cell h.2.1 hW0
  obtain ⟨xcb, xco, hxc, hxl⟩ := ints_cell h'.2.1 hx0
  have KW := Lib.hid (fun V' (hb : Below w.heap.size w V') j (hj : j < W.cl) => cell_later hb (hwl j hj))
  have KX := Lib.hid (fun V' (hb : Below w.heap.size w V') j (hj : j < x.cl) => cell_later hb (hxl j hj))
  have HWC := Lib.hid hwc
  have HXC := Lib.hid hxc
  clear hwc hxc hwl hxl
  obtain ⟨os, hos⟩ : ∃ l, outS W.ss x.ss s = l := ⟨_, rfl⟩
  obtain ⟨n, hn⟩ : ∃ l, x.ss.length = l := ⟨_, rfl⟩
  rw [hos] at O1 HF hN
  simp only [hos] at HO ⊢
  rw [hn] at O1 hn1 hn4 ⊢
  clear O h h' c1 c2 hE hT hro hrr hos hn hWp hxp
  refine (callsIn_wide (n := 1)).1 ?_
  refine callsIn_of_wp_marks Try.func14 rfl trivial ?_ rfl
  simp only [Try.ntmps14, List.size_toArray, List.length_cons, List.length_nil, Nat.reduceAdd, Nat.reduceSub, Array.replicate_succ, Array.replicate_zero, List.push_toArray, List.append_toArray, List.nil_append, List.cons_append]
  refine wpIn_wide.2 ?_
  go_upto_region 1 with (fail)
  rw [hwA.out, hwB.out, hwC.out]
  go_wp2_with fail
  refine O1.out.mono ?_
  rintro e w1 ⟨A, c, rfl, ho, hb1⟩
  obtain ⟨ga, ca', hv⟩ := Joins.ownsRow_form ho hn1
  simp only [Value.slice.injEq] at hv
  obtain ⟨rfl, -, rfl⟩ := hv
  have Z1 := Lib.hid (HO.out w1 _ c n hb1 (row_ints ho (by omega) HF.out))
  have J1a := Lib.hid (J1'.out.kept hb1)
  have J2a := Lib.hid (J2'.out.kept hb1)
  have J3a := Lib.hid (J3.out.kept hb1)
  have B1 := Lib.hid (z.out.trans (hb1.mono z.out.size))
  have s1 : Hid (w.heap.size + 3 ≤ w1.heap.size) := Lib.hid (by have := hb1.size; rw [nC.out] at this; exact this)
  clear ho hb1 O1 HO
  go_wp2_with fail
  refine Z1.out.mono ?_
  rintro e w2 ⟨v, rfl, A, cS, A', cC, rfl, o1, o2, ap, hb2⟩
  obtain ⟨gs, c', hv⟩ := Joins.ownsRow_form o1 hn1
  simp only [Value.slice.injEq] at hv
  obtain ⟨rfl, -, rfl⟩ := hv
  obtain ⟨gc, c', hv⟩ := Joins.ownsRow_form o2 hNp
  simp only [Value.slice.injEq] at hv
  obtain ⟨rfl, -, rfl⟩ := hv
  have hap : gs ≠ gc := ap _ _ rfl rfl
  obtain ⟨wD, hwD, J4, z4, n4⟩ := grid_box w2 (.slice (some ⟨gs, 0, none⟩) n cS) (.slice (some ⟨gc, 0, none⟩) N cC)
  have b2D := Lib.hid (hb2.trans (z4.out.mono hb2.size))
  have B2 := Lib.hid (B1.out.trans (b2D.out.mono B1.out.size))
  have o1' := Lib.hid (row_kept o1 z4.out)
  have o2' := Lib.hid (row_kept o2 z4.out)
  have s2 : Hid (w.heap.size + 3 ≤ w2.heap.size) := Lib.hid (Nat.le_trans s1.out hb2.size)
  clear o1 o2 ap hb2
  go_upto_region 5 with (fail)
  rw [hwD.out]
  obtain ⟨p0, p1, -, -⟩ := (J1a.out.kept b2D.out).see
  obtain ⟨q0, q1, -, -⟩ := (J2a.out.kept b2D.out).see
  go_wp2_with fail
  refine (touch_any _ _ _ _ _ _ _ _).mono ?_
  rintro e w' ⟨rfl, rfl⟩
  obtain ⟨V, hV⟩ : ∃ V, ((wD.alloc (.cells #[.slice W.sa W.sl W.sc] 23)).alloc (.cells #[.slice x.sa x.sl x.sc] 23)).alloc (.cells #[.int .i64 s] 3) = V := ⟨_, rfl⟩
  have zV : Below wD.heap.size wD V := by rw [← hV]; exact (((Below.refl _ _).alloc (Nat.le_refl _) _).alloc (by simp) _).alloc (by simp; omega) _
  have sV : V.heap.size = wD.heap.size + 3 := by rw [← hV]; simp
  have t0 : V.cell? ⟨wD.heap.size, 0, none⟩ = some (.slice W.sa W.sl W.sc) := by
    rw [← hV]
    refine cell_later ((Below.refl _ _).alloc (Nat.le_refl _) _) (cell_later ((Below.refl _ _).alloc (Nat.le_refl _) _) ?_)
    rw [World.cell?_alloc_at _ _ _ _ rfl]; rfl
  have t1 : V.cell? ⟨wD.heap.size + 1, 0, none⟩ = some (.slice x.sa x.sl x.sc) := by
    rw [← hV]
    refine cell_later ((Below.refl _ _).alloc (Nat.le_refl _) _) ?_
    rw [World.cell?_alloc_at _ _ _ _ (by simp)]; rfl
  have t2 : V.cell? ⟨wD.heap.size + 2, 0, none⟩ = some (.int .i64 s) := by
    rw [← hV, World.cell?_alloc_at _ _ _ _ (by simp)]; rfl
  have bV := B2.out.trans (zV.mono B2.out.size)
  have TC : TouchC wD.heap.size (wD.heap.size + 1) (wD.heap.size + 2) W x s V := ⟨t0, t1, t2, HAt.out.1.kept bV, HAt.out.2.kept bV⟩
  have IT := touch_iter wD.heap.size (wD.heap.size + 1) (wD.heap.size + 2) W x s HC.out.1 HC.out.2 hs1 hs2
  have r0 : GoI w2.heap.size gs cS gc cC n N W x os w [] (fun _ => False) V :=
    ⟨⟨fun h => h, (J1a.out.kept b2D.out).kept zV⟩, ⟨fun h => h, (J2a.out.kept b2D.out).kept zV⟩, ⟨fun h => h, (J3a.out.kept b2D.out).kept zV⟩, ⟨fun h => h, J4.out.kept zV⟩,
      ⟨Joins.ownsRow_le (row_kept o1'.out zV) s1.out, fun h => h⟩, ⟨Joins.ownsRow_le (row_kept o2'.out zV) s1.out, fun h => h⟩, ⟨bV, fun _ h => h.elim⟩, fun _ h => h.elim⟩
  have hK : w.heap.size + 3 ≤ w2.heap.size := s2.out
  have nD := n4.out
  obtain ⟨KD, hKD⟩ : ∃ K, wD.heap.size = K := ⟨_, rfl⟩
  obtain ⟨K, hKK⟩ : ∃ K, w2.heap.size = K := ⟨_, rfl⟩
  obtain ⟨B, hB⟩ : ∃ B, w.heap.size = B := ⟨_, rfl⟩
  rw [hKD] at TC IT sV
  rw [hKK] at r0 hK
  rw [hB] at hK
  rw [hKD, hKK] at nD
  rw [hV]
  simp only [hKD, hKK, hB, Nat.add_assoc, Nat.reduceAdd]
  have HB := Lib.hid hB
  have HAP := Lib.hid hap
  have HS := Lib.hid (And.intro sV nD)
  clear hV t0 t1 t2 bV zV J1' J2' J3 J1a J2a J3a J4 o1' o2' j0 j1 i0 i1 p0 p1 q0 q1 b2D B1 B2 z s1 s2 nC n4 z4 hwD hwA hwB hwC Z1 HF HC HAt hKD hKK hB hap sV nD
  go_wp2_with fail
  refine (wpIn_wide (n := 1)).1 ?_
  refine range_lawA (gf := 47) (lb := #[.pointer (some ⟨KD, 0, none⟩), .pointer (some ⟨KD + 1, 0, none⟩), .pointer (some ⟨KD + 2, 0, none⟩)]) rfl (enters_of Try.func47 (by kernel_rfl) rfl) IT (fun _ _ => rfl) (fun _ h => h.elim)
    (fun _ _ _ _ _ _ _ _ _ _ _ => trivial) (fun W' hb' => TC.kept hb') (GoI K gs cS gc cC n N W x os w) (fun _ _ _ _ => False) (GoI.stable K gs cS gc cC n N W x os w) (fun _ _ _ _ _ _ h _ => h) r0 ?round ?done ?stop
  case stop =>
    intro D O c pre W' _ _ _ h
    exact h.elim
  case done =>
    rintro D O V' hD hO hdef ⟨g1, g2, g3, g4, g5, g6, g7, g8⟩
    rw [HB.out] at g1 g2 g3 g5 g6
    have k0 : V'.cell? ⟨K, 0, none⟩ = some (.slice (some ⟨gs, 0, none⟩) n cS) := g4.cell 0
    have k1 : V'.cell? ⟨K, 1, none⟩ = some (.slice (some ⟨gc, 0, none⟩) N cC) := g4.cell 1
    have e0 : V'.cell? ⟨B + 2, 0, none⟩ = some (.slice none 0 0) := g3.cell 0
    have e1 : V'.cell? ⟨B + 2, 1, none⟩ = some (.slice none 0 0) := g3.cell 1
    have f0 := g3.frozen 0
    have f1 := g3.frozen 1
    have q3 := (g3.set 0 (.slice (some ⟨gs, 0, none⟩) n cS)).set 1 (.slice (some ⟨gc, 0, none⟩) N cC)
    have q5 := (g5.other (p := ⟨B + 2, 0, none⟩) (.slice (some ⟨gs, 0, none⟩) n cS) (by have := g5.lt; simp only; omega)).other (p := ⟨B + 2, 1, none⟩) (.slice (some ⟨gc, 0, none⟩) N cC) (by have := g5.lt; simp only; omega)
    have q6 := (g6.other (p := ⟨B + 2, 0, none⟩) (.slice (some ⟨gs, 0, none⟩) n cS) (by have := g6.lt; simp only; omega)).other (p := ⟨B + 2, 1, none⟩) (.slice (some ⟨gc, 0, none⟩) N cC) (by have := g6.lt; simp only; omega)
    have qB : Below w.heap.size w ((V'.setCell ⟨B + 2, 0, none⟩ (.slice (some ⟨gs, 0, none⟩) n cS)).setCell ⟨B + 2, 1, none⟩ (.slice (some ⟨gc, 0, none⟩) N cC)) := (g7.1.setCell (p := ⟨B + 2, 0, none⟩) (by rw [HB.out]; simp) _).setCell (p := ⟨B + 2, 1, none⟩) (by rw [HB.out]; simp) _
    have hDB : D ≠ B + 2 := fun e => g3.1 (e ▸ hO)
    have hdef2 : ((V'.setCell ⟨B + 2, 0, none⟩ (.slice (some ⟨gs, 0, none⟩) n cS)).setCell ⟨B + 2, 1, none⟩ (.slice (some ⟨gc, 0, none⟩) N cC)).heap[D]? = some (.deferred (some [])) := (Below.heap_setCell _ ⟨B + 2, 1, none⟩ _ D hDB).trans ((Below.heap_setCell V' ⟨B + 2, 0, none⟩ _ D hDB).trans hdef)
    have st := ItStep.putObj ((V'.setCell ⟨B + 2, 0, none⟩ (.slice (some ⟨gs, 0, none⟩) n cS)).setCell ⟨B + 2, 1, none⟩ (.slice (some ⟨gc, 0, none⟩) N cC)) D (.deferred none) hO
    have P := Lib.hid (show NewT w n os N (runP N (goV W.cs x.cs) (touchL W.ss x.ss s)) (.agg #[.slice (some ⟨gs, 0, none⟩) n cS, .slice (some ⟨gc, 0, none⟩) N cC]) (((V'.setCell ⟨B + 2, 0, none⟩ (.slice (some ⟨gs, 0, none⟩) n cS)).setCell ⟨B + 2, 1, none⟩ (.slice (some ⟨gc, 0, none⟩) N cC)).putObj D (.deferred none)) from
      ⟨_, cS, _, cC, rfl, Joins.ownsRow_le (q5.stable st).1 (by have := HB.out; omega), Joins.ownsRow_le (q6.stable st).1 (by have := HB.out; omega), (by rintro p q hp hq; cases hp; cases hq; exact HAP.out), below_putObj qB D _ (by have := HS.out; have := HB.out; omega)⟩)
    have r0 := Lib.hid ((q3.stable st).cell 0)
    have r1 := Lib.hid ((q3.stable st).cell 1)
    have HD := Lib.hid hdef2
    clear g1 g2 g3 g4 g5 g6 g7 g8 q3 q5 q6 qB hdef hdef2 st hDB
    go_wp2_with fail
    refine leaves_mark HD.out ⟨.tuple #[.agg #[.slice (some ⟨gs, 0, none⟩) n cS, .slice (some ⟨gc, 0, none⟩) N cC], .int .i64 0], ?_, ⟨_, rfl, P.out⟩⟩
    have r0' := r0.out
    have r1' := r1.out
    simp at r0' r1'
    simp [results, Try.results14, go_sem, r0', r1']
  case round =>
    rintro l pre ⟨a, b, d⟩ ⟨⟩ rest O Wa V2 hxs hsz hG _
    obtain ⟨ta, tb, td⟩ := TI.out (a, b, d) (by rw [hxs]; simp)
    simp only at ta tb td
    have HSZ := Lib.hid hsz
    have HG := Lib.hid hG
    rw [show triV (a, b, d) () = #[.agg #[.int .i64 (a : Int), .int .i64 (b : Int), .int .i64 (d : Int)]] from rfl]
    clear hxs hsz hG
    gi_wp2
    refine ⟨_, rfl, ?_⟩
    rw [← HSZ.out]
    obtain ⟨V3, hV3⟩ : ∃ V, V2.alloc (.cells #[.int .i64 (a : Int), .int .i64 (b : Int), .int .i64 (d : Int)] 69) = V := ⟨_, rfl⟩
    obtain ⟨P, hP⟩ : ∃ P, V2.heap.size = P := ⟨_, rfl⟩
    have z3 : Below V2.heap.size V2 V3 := by rw [← hV3]; exact (Below.refl _ _).alloc (Nat.le_refl _) _
    have hPo : ¬ O P := fun h => by have := HG.out.2.2.2.2.2.2.2 P h; omega
    have pP : Has O V3 P #[.int .i64 (a : Int), .int .i64 (b : Int), .int .i64 (d : Int)] 69 := by rw [← hV3, ← hP]; exact Has.made V2 _ _ (by rw [hP]; exact hPo)
    rw [hV3]
    simp only [hP]
    obtain ⟨V4, hV4⟩ : ∃ V, V3.drew = V := ⟨_, rfl⟩
    have z4 : Below V3.heap.size V3 V4 := by rw [← hV4]; exact (Below.refl _ _).drew
    obtain ⟨g1, g2, g3, g4, g5, g6, g7, g8⟩ := HG.out
    have z24 := z3.trans (z4.mono z3.size)
    have q1 := g1.below z24
    have q2 := g2.below z24
    have q3 := g3.below z24
    have q4 := g4.below z24
    have q5 := g5.below z24
    have q6 := g6.below z24
    have q7 : Below w.heap.size w V4 := g7.1.trans (z24.mono g7.1.size)
    have q8 := g7.2
    have q9 : ∀ k, O k → k < V4.heap.size := fun k hk => Nat.lt_of_lt_of_le (g8 k hk) z24.size
    rw [HB.out] at q1 q2 q3 q5 q6
    have r24 : RdStep (fun k => False ∨ O k) V2 V4 := RdStep.of_below z24
    obtain ⟨y, hy⟩ : ∃ y, (runP N (goV W.cs x.cs) pre).getD a 0 = y := ⟨_, rfl⟩
    obtain ⟨wv, hwv⟩ : ∃ y, W.cs.getD b 0 = y := ⟨_, rfl⟩
    obtain ⟨xv, hxv⟩ : ∃ y, x.cs.getD d 0 = y := ⟨_, rfl⟩
    have yb := (runP_fits N (goV W.cs x.cs) pre).getD a
    have wb := fw.out.getD b
    have xb := fx.out.getD d
    rw [hy] at yb
    rw [hwv] at wb
    rw [hxv] at xb
    have pb := mulF_bounds wv xv
    have MUL := fun V => mul_any wv xv V wb.1 wb.2 xb.1 xb.2
    obtain ⟨p, hp⟩ : ∃ p, mulF wv xv = p := ⟨_, rfl⟩
    simp only [hp] at MUL
    rw [hp] at pb
    have ADD := fun V => add_any y p V yb.1 yb.2 pb.1 pb.2
    obtain ⟨q, hq⟩ : ∃ q, sat (y + p) = q := ⟨_, rfl⟩
    simp only [hq] at ADD
    have HADD := Lib.hid ADD
    have HMUL := Lib.hid MUL
    have ck := q6.cell ta
    rw [hy] at ck
    obtain ⟨cg, fg⟩ := ck
    obtain ⟨V6, hV6⟩ : ∃ V, (V4.setCell ⟨gc, a, none⟩ (.int .i64 q)).drew = V := ⟨_, rfl⟩
    have hV6d : V4.drew.setCell ⟨gc, a, none⟩ (.int .i64 q) = V6 := (show V4.drew.setCell ⟨gc, a, none⟩ (.int .i64 q) = (V4.setCell ⟨gc, a, none⟩ (.int .i64 q)).drew from rfl).trans hV6
    have hgO : ¬ O gc := q6.2
    have hgB : B + 3 ≤ gc := q6.lt.1
    have z46 : Below w.heap.size w V6 := by rw [← hV6d]; exact ((q7.trans ((Below.refl _ _).drew.mono q7.size))).setCell (p := ⟨gc, a, none⟩) (by rw [HB.out]; simp only; omega) _
    have hKg : K ≠ gc := fun e => by
      have h1 := q4.2
      rcases q6.1.2 with h2 | ⟨g', cap', cur', hv', -, hg', -⟩
      · cases h2.1
      · cases hv'
        rw [e, hg'] at h1
        exact absurd h1 (by intro h1; injection h1 with h1; injection h1 with h1 h2; exact absurd h2 (by decide))
    have u1 : Has O V6 B #[.slice W.sa W.sl W.sc, .slice W.ca W.cl W.cc] 34 := by rw [← hV6d]; exact Has.other (W := V4.drew) q1 _ (by simp only; omega)
    have u2 : Has O V6 (B + 1) #[.slice x.sa x.sl x.sc, .slice x.ca x.cl x.cc] 34 := by rw [← hV6d]; exact Has.other (W := V4.drew) q2 _ (by simp only; omega)
    have u3 : Has O V6 (B + 2) #[.slice none 0 0, .slice none 0 0] 34 := by rw [← hV6d]; exact Has.other (W := V4.drew) q3 _ (by simp only; omega)
    have u4 : Has O V6 K #[.slice (some ⟨gs, 0, none⟩) n cS, .slice (some ⟨gc, 0, none⟩) N cC] 34 := by rw [← hV6d]; exact Has.other (W := V4.drew) q4 _ hKg
    have u5 : RowO O V6 (B + 3) 3 gs n cS os := by rw [← hV6d]; exact RowO.other (V := V4.drew) q5 _ HAP.out
    have u6 : RowO O V6 (B + 3) 56 gc N cC (runP N (goV W.cs x.cs) (pre ++ [(a, b, d)])) := by
      have : runP N (goV W.cs x.cs) (pre ++ [(a, b, d)]) = (runP N (goV W.cs x.cs) pre).set a q := by
        rw [runP_snoc]
        show addAt (runP N (goV W.cs x.cs) pre) a (mulF (W.cs.getD b 0) (x.cs.getD d 0)) = _
        unfold addAt
        rw [hy, hwv, hxv, hp, hq]
      rw [this, ← hV6d]
      exact RowO.set (V := V4.drew) q6 a q
    have r46 : RdStep (fun k => False ∨ O k) V4 V6 := by
      rw [← hV6d]
      exact (RdStep.drew _ V4).trans (RdStep.setCell V4.drew ⟨gc, a, none⟩ _ (fun h => h.elim id hgO))
    have fin : RdStep (fun k => False ∨ O k) V2 V6 ∧ GoI K gs cS gc cC n N W x os w (pre ++ [(a, b, d)]) O V6 := by
      refine ⟨r24.trans r46, ?_⟩
      unfold GoI
      rw [HB.out]
      exact ⟨u1, u2, u3, u4, u5, u6, ⟨z46, q8⟩, fun k hk => Nat.lt_of_lt_of_le (q9 k hk) r46.size⟩
    have F := Lib.hid fin
    have SC : ∀ V', Has O V' B #[.slice W.sa W.sl W.sc, .slice W.ca W.cl W.cc] 34 → Has O V' (B + 1) #[.slice x.sa x.sl x.sc, .slice x.ca x.cl x.cc] 34 → Has O V' K #[.slice (some ⟨gs, 0, none⟩) n cS, .slice (some ⟨gc, 0, none⟩) N cC] 34 → Below w.heap.size w V' →
        V'.cell? ⟨K, 1, none⟩ = some (.slice (some ⟨gc, 0, none⟩) N cC) ∧ V'.cell? ⟨B, 1, none⟩ = some (.slice (some ⟨wcb, wco, none⟩) W.cl W.cc) ∧ V'.cell? ⟨wcb, wco + b, none⟩ = some (.int .i64 wv) ∧ V'.cell? ⟨B + 1, 1, none⟩ = some (.slice (some ⟨xcb, xco, none⟩) x.cl x.cc) ∧ V'.cell? ⟨xcb, xco + d, none⟩ = some (.int .i64 xv) := by
      intro V' h1 h2 h4 hb
      have a1 : V'.cell? ⟨B, 1, none⟩ = some (.slice W.ca W.cl W.cc) := h1.cell 1
      have a2 : V'.cell? ⟨B + 1, 1, none⟩ = some (.slice x.ca x.cl x.cc) := h2.cell 1
      rw [HWC.out] at a1
      rw [HXC.out] at a2
      have a3 := KW.out V' hb b tb
      have a4 := KX.out V' hb d td
      rw [hwv] at a3
      rw [hxv] at a4
      exact ⟨h4.cell 1, a1, a3, a2, a4⟩
    have S4 := Lib.hid (SC V4 q1 q2 q4 q7)
    have S6 := Lib.hid (SC V6 u1 u2 u4 z46)
    have S7 : Hid (V3.cell? ⟨P, 0, none⟩ = some (.int .i64 (a : Int)) ∧ V3.cell? ⟨P, 1, none⟩ = some (.int .i64 (b : Int)) ∧ V3.cell? ⟨P, 2, none⟩ = some (.int .i64 (d : Int))) := Lib.hid ⟨pP.cell 0, pP.cell 1, pP.cell 2⟩
    have HV4 := Lib.hid hV4
    have HV6 := Lib.hid hV6
    clear g1 g2 g3 g4 g5 g6 g7 g8 q1 q2 q3 q4 q5 q6 q7 q8 q9 u1 u2 u3 u4 u5 u6 r24 r46 z46 z24 z3 z4 fin SC hV3 hP hPo pP hy hwv hxv hp hq yb wb xb pb ADD MUL hgO hgB hKg hV4 hV6 hV6d
    gi_wp2_with fail
    refine round_cutQ (ι := Unit) (fun _ => True) (fun _ act => (((((((((act.put (some 35) (.pointer (some ⟨P, 0, none⟩))).put (some 36) (.int .i64 (a : Int))).put (some 37) (.pointer (some ⟨P, 1, none⟩))).put (some 38) (.int .i64 (b : Int))).put (some 39) (.pointer (some ⟨P, 2, none⟩))).put (some 40) (.int .i64 (d : Int))).put (some 12) (.int .i64 (a : Int))).put (some 13) (.int .i64 (b : Int))).put (some 14) (.int .i64 (d : Int)))) (fun _ => V4) (fun w' => w'.cell? ⟨P, 0, none⟩ = some (.int .i64 (a : Int)) ∧ w'.cell? ⟨P, 1, none⟩ = some (.int .i64 (b : Int)) ∧ w'.cell? ⟨P, 2, none⟩ = some (.int .i64 (d : Int))) (by kernel_rfl) (by kernel_rfl) S7.out (fun hHeld => ?_) (fun _ _ => ?_)
    · refine held_take 0 (.pointer (some ⟨P, 0, none⟩)) rfl (by kernel_rfl) (by kernel_rfl) (by kernel_rfl) (fun _ _ _ h => by obtain ⟨_, _, h, _⟩ := h; cases h) (by rfl) (by intro w' hS; go_simp) (by assumption) ?_
      try simp only [Act.put, List.setIfInBounds_toArray, List.set_cons_zero, List.set_cons_succ]
      refine held_take 1 (.int .i64 (a : Int)) rfl (by kernel_rfl) (by kernel_rfl) (by kernel_rfl) (fun _ _ _ h => by obtain ⟨_, _, h, _⟩ := h; cases h) (by rfl) (by intro w' hS; go_simp) (by assumption) ?_
      try simp only [Act.put, List.setIfInBounds_toArray, List.set_cons_zero, List.set_cons_succ]
      refine held_take 2 (.pointer (some ⟨P, 1, none⟩)) rfl (by kernel_rfl) (by kernel_rfl) (by kernel_rfl) (fun _ _ _ h => by obtain ⟨_, _, h, _⟩ := h; cases h) (by rfl) (by intro w' hS; go_simp) (by assumption) ?_
      try simp only [Act.put, List.setIfInBounds_toArray, List.set_cons_zero, List.set_cons_succ]
      refine held_take 3 (.int .i64 (b : Int)) rfl (by kernel_rfl) (by kernel_rfl) (by kernel_rfl) (fun _ _ _ h => by obtain ⟨_, _, h, _⟩ := h; cases h) (by rfl) (by intro w' hS; go_simp) (by assumption) ?_
      try simp only [Act.put, List.setIfInBounds_toArray, List.set_cons_zero, List.set_cons_succ]
      refine held_take 4 (.pointer (some ⟨P, 2, none⟩)) rfl (by kernel_rfl) (by kernel_rfl) (by kernel_rfl) (fun _ _ _ h => by obtain ⟨_, _, h, _⟩ := h; cases h) (by rfl) (by intro w' hS; go_simp) (by assumption) ?_
      try simp only [Act.put, List.setIfInBounds_toArray, List.set_cons_zero, List.set_cons_succ]
      refine held_take 5 (.int .i64 (d : Int)) rfl (by kernel_rfl) (by kernel_rfl) (by kernel_rfl) (fun _ _ _ h => by obtain ⟨_, _, h, _⟩ := h; cases h) (by rfl) (by intro w' hS; go_simp) (by assumption) ?_
      try simp only [Act.put, List.setIfInBounds_toArray, List.set_cons_zero, List.set_cons_succ]
      refine held_take 6 (.int .i64 (a : Int)) rfl (by kernel_rfl) (by kernel_rfl) (by kernel_rfl) (fun _ _ _ h => by obtain ⟨_, _, h, _⟩ := h; cases h) (by rfl) (by intro w' hS; go_simp) (by assumption) ?_
      try simp only [Act.put, List.setIfInBounds_toArray, List.set_cons_zero, List.set_cons_succ]
      refine held_take 7 (.int .i64 (b : Int)) rfl (by kernel_rfl) (by kernel_rfl) (by kernel_rfl) (fun _ _ _ h => by obtain ⟨_, _, h, _⟩ := h; cases h) (by rfl) (by intro w' hS; go_simp) (by assumption) ?_
      try simp only [Act.put, List.setIfInBounds_toArray, List.set_cons_zero, List.set_cons_succ]
      refine held_take 8 (.int .i64 (d : Int)) rfl (by kernel_rfl) (by kernel_rfl) (by kernel_rfl) (fun _ _ _ h => by obtain ⟨_, _, h, _⟩ := h; cases h) (by rfl) (by intro w' hS; go_simp) (by assumption) ?_
      try simp only [Act.put, List.setIfInBounds_toArray, List.set_cons_zero, List.set_cons_succ]
      refine wpAnyH_done (by kernel_rfl) ?_ _
      refine ⟨(), trivial, rfl, ?_, HV4.out⟩
      simp only [Act.put, List.setIfInBounds_toArray, List.set_cons_zero, List.set_cons_succ]
    gi_wp2_with fail
    refine round_cutQ (ι := Unit) (fun _ => True) (fun _ act => (((((((((((((((((((((act.put (some 41) (.pointer (some ⟨K, 1, none⟩))).put (some 42) (.slice (some ⟨gc, 0, none⟩) N cC)).put (some 43) (.int .i64 (a : Int))).put (some 44) (.pointer (some ⟨K, 1, none⟩))).put (some 45) (.slice (some ⟨gc, 0, none⟩) N cC)).put (some 46) (.int .i64 (a : Int))).put (some 47) (.pointer (some ⟨gc, a, none⟩))).put (some 48) (.int .i64 y)).put (some 49) (.pointer (some ⟨B, 1, none⟩))).put (some 50) (.slice (some ⟨wcb, wco, none⟩) W.cl W.cc)).put (some 51) (.int .i64 (b : Int))).put (some 52) (.pointer (some ⟨wcb, wco + b, none⟩))).put (some 53) (.int .i64 wv)).put (some 54) (.pointer (some ⟨B + 1, 1, none⟩))).put (some 55) (.slice (some ⟨xcb, xco, none⟩) x.cl x.cc)).put (some 56) (.int .i64 (d : Int))).put (some 57) (.pointer (some ⟨xcb, xco + d, none⟩))).put (some 58) (.int .i64 xv)).put (some 59) (.int .i64 p)).put (some 60) (.int .i64 q)).put (some 61) (.pointer (some ⟨gc, a, none⟩)))) (fun _ => V6) (fun V' => V'.cell? ⟨K, 1, none⟩ = some (.slice (some ⟨gc, 0, none⟩) N cC) ∧ V'.cell? ⟨B, 1, none⟩ = some (.slice (some ⟨wcb, wco, none⟩) W.cl W.cc) ∧ V'.cell? ⟨wcb, wco + b, none⟩ = some (.int .i64 wv) ∧ V'.cell? ⟨B + 1, 1, none⟩ = some (.slice (some ⟨xcb, xco, none⟩) x.cl x.cc) ∧ V'.cell? ⟨xcb, xco + d, none⟩ = some (.int .i64 xv)) (by kernel_rfl) (by kernel_rfl) S4.out (fun hHeld => ?_) (fun _ _ => ?_)
    · refine held_take 0 (.pointer (some ⟨K, 1, none⟩)) rfl (by kernel_rfl) (by kernel_rfl) (by kernel_rfl) (fun _ _ _ h => by obtain ⟨_, _, h, _⟩ := h; cases h) (by rfl) (by intro w' hS; go_simp) (by assumption) ?_
      try simp only [Act.put, List.setIfInBounds_toArray, List.set_cons_zero, List.set_cons_succ]
      refine held_take 1 (.slice (some ⟨gc, 0, none⟩) N cC) rfl (by kernel_rfl) (by kernel_rfl) (by kernel_rfl) (fun _ _ _ h => by obtain ⟨_, _, h, _⟩ := h; cases h) (by rfl) (by intro w' hS; go_simp) (by assumption) ?_
      try simp only [Act.put, List.setIfInBounds_toArray, List.set_cons_zero, List.set_cons_succ]
      refine held_take 2 (.int .i64 (a : Int)) rfl (by kernel_rfl) (by kernel_rfl) (by kernel_rfl) (fun _ _ _ h => by obtain ⟨_, _, h, _⟩ := h; cases h) (by rfl) (by intro w' hS; go_simp) (by assumption) ?_
      try simp only [Act.put, List.setIfInBounds_toArray, List.set_cons_zero, List.set_cons_succ]
      refine held_take 3 (.pointer (some ⟨K, 1, none⟩)) rfl (by kernel_rfl) (by kernel_rfl) (by kernel_rfl) (fun _ _ _ h => by obtain ⟨_, _, h, _⟩ := h; cases h) (by rfl) (by intro w' hS; go_simp) (by assumption) ?_
      try simp only [Act.put, List.setIfInBounds_toArray, List.set_cons_zero, List.set_cons_succ]
      refine held_take 4 (.slice (some ⟨gc, 0, none⟩) N cC) rfl (by kernel_rfl) (by kernel_rfl) (by kernel_rfl) (fun _ _ _ h => by obtain ⟨_, _, h, _⟩ := h; cases h) (by rfl) (by intro w' hS; go_simp) (by assumption) ?_
      try simp only [Act.put, List.setIfInBounds_toArray, List.set_cons_zero, List.set_cons_succ]
      refine held_take 5 (.int .i64 (a : Int)) rfl (by kernel_rfl) (by kernel_rfl) (by kernel_rfl) (fun _ _ _ h => by obtain ⟨_, _, h, _⟩ := h; cases h) (by rfl) (by intro w' hS; go_simp) (by assumption) ?_
      try simp only [Act.put, List.setIfInBounds_toArray, List.set_cons_zero, List.set_cons_succ]
      refine held_take 6 (.pointer (some ⟨gc, a, none⟩)) rfl (by kernel_rfl) (by kernel_rfl) (by kernel_rfl) (fun _ _ _ h => by obtain ⟨_, _, h, _⟩ := h; cases h) (by rfl) (by intro w' hS; go_simp) (by assumption) ?_
      try simp only [Act.put, List.setIfInBounds_toArray, List.set_cons_zero, List.set_cons_succ]
      refine held_take 8 (.pointer (some ⟨B, 1, none⟩)) rfl (by kernel_rfl) (by kernel_rfl) (by kernel_rfl) (fun _ _ _ h => by obtain ⟨_, _, h, _⟩ := h; cases h) (by rfl) (by intro w' hS; go_simp) (by assumption) ?_
      try simp only [Act.put, List.setIfInBounds_toArray, List.set_cons_zero, List.set_cons_succ]
      refine held_take 9 (.slice (some ⟨wcb, wco, none⟩) W.cl W.cc) rfl (by kernel_rfl) (by kernel_rfl) (by kernel_rfl) (fun _ _ _ h => by obtain ⟨_, _, h, _⟩ := h; cases h) (by rfl) (by intro w' hS; go_simp) (by assumption) ?_
      try simp only [Act.put, List.setIfInBounds_toArray, List.set_cons_zero, List.set_cons_succ]
      refine held_take 10 (.int .i64 (b : Int)) rfl (by kernel_rfl) (by kernel_rfl) (by kernel_rfl) (fun _ _ _ h => by obtain ⟨_, _, h, _⟩ := h; cases h) (by rfl) (by intro w' hS; go_simp) (by assumption) ?_
      try simp only [Act.put, List.setIfInBounds_toArray, List.set_cons_zero, List.set_cons_succ]
      refine held_take 11 (.pointer (some ⟨wcb, wco + b, none⟩)) rfl (by kernel_rfl) (by kernel_rfl) (by kernel_rfl) (fun _ _ _ h => by obtain ⟨_, _, h, _⟩ := h; cases h) (by rfl) (by intro w' hS; go_simp) (by assumption) ?_
      try simp only [Act.put, List.setIfInBounds_toArray, List.set_cons_zero, List.set_cons_succ]
      refine held_take 12 (.int .i64 wv) rfl (by kernel_rfl) (by kernel_rfl) (by kernel_rfl) (fun _ _ _ h => by obtain ⟨_, _, h, _⟩ := h; cases h) (by rfl) (by intro w' hS; go_simp) (by assumption) ?_
      try simp only [Act.put, List.setIfInBounds_toArray, List.set_cons_zero, List.set_cons_succ]
      refine held_take 13 (.pointer (some ⟨B + 1, 1, none⟩)) rfl (by kernel_rfl) (by kernel_rfl) (by kernel_rfl) (fun _ _ _ h => by obtain ⟨_, _, h, _⟩ := h; cases h) (by rfl) (by intro w' hS; go_simp) (by assumption) ?_
      try simp only [Act.put, List.setIfInBounds_toArray, List.set_cons_zero, List.set_cons_succ]
      refine held_take 14 (.slice (some ⟨xcb, xco, none⟩) x.cl x.cc) rfl (by kernel_rfl) (by kernel_rfl) (by kernel_rfl) (fun _ _ _ h => by obtain ⟨_, _, h, _⟩ := h; cases h) (by rfl) (by intro w' hS; go_simp) (by assumption) ?_
      try simp only [Act.put, List.setIfInBounds_toArray, List.set_cons_zero, List.set_cons_succ]
      refine held_take 15 (.int .i64 (d : Int)) rfl (by kernel_rfl) (by kernel_rfl) (by kernel_rfl) (fun _ _ _ h => by obtain ⟨_, _, h, _⟩ := h; cases h) (by rfl) (by intro w' hS; go_simp) (by assumption) ?_
      try simp only [Act.put, List.setIfInBounds_toArray, List.set_cons_zero, List.set_cons_succ]
      refine held_take 16 (.pointer (some ⟨xcb, xco + d, none⟩)) rfl (by kernel_rfl) (by kernel_rfl) (by kernel_rfl) (fun _ _ _ h => by obtain ⟨_, _, h, _⟩ := h; cases h) (by rfl) (by intro w' hS; go_simp) (by assumption) ?_
      try simp only [Act.put, List.setIfInBounds_toArray, List.set_cons_zero, List.set_cons_succ]
      refine held_take 17 (.int .i64 xv) rfl (by kernel_rfl) (by kernel_rfl) (by kernel_rfl) (fun _ _ _ h => by obtain ⟨_, _, h, _⟩ := h; cases h) (by rfl) (by intro w' hS; go_simp) (by assumption) ?_
      try simp only [Act.put, List.setIfInBounds_toArray, List.set_cons_zero, List.set_cons_succ]
      refine held_two 7 18 (by kernel_rfl) rfl rfl (by rfl) (by rfl) (fun K hK => ?_) (fun K hK => ?_)
      · go_simp
        refine hK.out _ _ hHeld (fun hHeld => ?_)
        try simp only [Act.put, List.setIfInBounds_toArray, List.set_cons_zero, List.set_cons_succ]
        refine held_call 18 (by kernel_rfl) rfl (by rfl) (fun K hK => ?_)
        go_simp
        refine (HMUL.out _).mono ?_
        rintro e wz ⟨rfl, rfl⟩
        go_wp2_with fail
        refine hK.out _ _ hHeld (fun hHeld => ?_)
        try simp only [Act.put, List.setIfInBounds_toArray, List.set_cons_zero, List.set_cons_succ]
        refine held_call 19 (by kernel_rfl) rfl (by rfl) (fun K hK => ?_)
        go_simp
        refine (HADD.out _).mono ?_
        rintro e wz ⟨rfl, rfl⟩
        go_wp2_with fail
        refine hK.out _ _ hHeld (fun hHeld => ?_)
        try simp only [Act.put, List.setIfInBounds_toArray, List.set_cons_zero, List.set_cons_succ]
        refine held_take 20 (.pointer (some ⟨gc, a, none⟩)) rfl (by kernel_rfl) (by kernel_rfl) (by kernel_rfl) (fun _ _ _ h => by obtain ⟨_, _, h, _⟩ := h; cases h) (by rfl) (by intro w' hS; go_simp) (by assumption) ?_
        try simp only [Act.put, List.setIfInBounds_toArray, List.set_cons_zero, List.set_cons_succ]
        refine held_call 21 (by kernel_rfl) rfl (by rfl) (fun K hK => ?_)
        go_simp
        rw [HV6.out]
        refine hK.out _ _ S6.out (fun hHeld => ?_)
        try simp only [Act.put, List.setIfInBounds_toArray, List.set_cons_zero, List.set_cons_succ]
        refine wpAnyH_done (by kernel_rfl) ?_ _
        refine ⟨(), trivial, rfl, ?_, rfl⟩
        simp only [Act.put, List.setIfInBounds_toArray, List.set_cons_zero, List.set_cons_succ]
      · go_simp
        refine (HMUL.out _).mono ?_
        rintro e wz ⟨rfl, rfl⟩
        go_wp2_with fail
        refine hK.out _ _ hHeld (fun hHeld => ?_)
        try simp only [Act.put, List.setIfInBounds_toArray, List.set_cons_zero, List.set_cons_succ]
        refine held_call 7 (by kernel_rfl) rfl (by rfl) (fun K hK => ?_)
        go_simp
        refine hK.out _ _ hHeld (fun hHeld => ?_)
        try simp only [Act.put, List.setIfInBounds_toArray, List.set_cons_zero, List.set_cons_succ]
        refine held_call 19 (by kernel_rfl) rfl (by rfl) (fun K hK => ?_)
        go_simp
        refine (HADD.out _).mono ?_
        rintro e wz ⟨rfl, rfl⟩
        go_wp2_with fail
        refine hK.out _ _ hHeld (fun hHeld => ?_)
        try simp only [Act.put, List.setIfInBounds_toArray, List.set_cons_zero, List.set_cons_succ]
        refine held_take 20 (.pointer (some ⟨gc, a, none⟩)) rfl (by kernel_rfl) (by kernel_rfl) (by kernel_rfl) (fun _ _ _ h => by obtain ⟨_, _, h, _⟩ := h; cases h) (by rfl) (by intro w' hS; go_simp) (by assumption) ?_
        try simp only [Act.put, List.setIfInBounds_toArray, List.set_cons_zero, List.set_cons_succ]
        refine held_call 21 (by kernel_rfl) rfl (by rfl) (fun K hK => ?_)
        go_simp
        rw [HV6.out]
        refine hK.out _ _ S6.out (fun hHeld => ?_)
        try simp only [Act.put, List.setIfInBounds_toArray, List.set_cons_zero, List.set_cons_succ]
        refine wpAnyH_done (by kernel_rfl) ?_ _
        refine ⟨(), trivial, rfl, ?_, rfl⟩
        simp only [Act.put, List.setIfInBounds_toArray, List.set_cons_zero, List.set_cons_succ]
    gi_wp2_with fail
    exact F.out
end Go.Proofs.Ytapelgjnnccfoaa

