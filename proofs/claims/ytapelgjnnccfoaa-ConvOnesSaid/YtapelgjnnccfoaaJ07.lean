import Derived.Test.YtapelgjnnccfoaaJ00
import Derived.Test.YtapelgjnnccfoaaJ01
import Derived.Test.YtapelgjnnccfoaaJ06
import Derived.RangeFuncBox
/-
  The contract of package conv's placesIn.
-/
namespace Go.Proofs.Ytapelgjnnccfoaa
open Go.RowKit Go.Shelf
attribute [local go_sem] Oper.semAt_some
set_option linter.unusedVariables false
set_option linter.unusedSimpArgs false

theorem row_keeps {B : Nat} {e : TypeId} {v : Value} {n : Nat} {xs : List Value} {O O' : BSet} {W W' : World} (h : W.ownsRow B e 1 v n xs) (hO : ∀ q, v.ownBlock = some q → ¬ O q) (hs : ItStep O W O' W') :
    W'.ownsRow B e 1 v n xs ∧ ∀ q, v.ownBlock = some q → ¬ O' q := by
  have hlt := h.lt
  refine ⟨?_, fun q hq => not_own hs (hlt q hq).2 (hO q hq)⟩
  rcases h.2 with h2 | ⟨g, cap, cur, hv, hbg, hg, rest⟩
  · exact ⟨h.1, .inl h2⟩
  · have hq : v.ownBlock = some g := by rw [hv]; rfl
    exact ⟨h.1, .inr ⟨g, cap, cur, hv, hbg, (hs.block g (hlt g hq).2 (hO g hq)).trans hg, rest⟩⟩
/-- One number of a whole block is changed. -/
theorem ints_set {W : World} {b len : Nat} {zs : List Int} {cur : Array Value} {t : TypeId} (h : IntsAt W (some ⟨b, 0, none⟩) len zs) (hc : W.heap[b]? = some (.cells cur t (0, 0))) {j : Nat} (hj : j < len) {x : Int} (h1 : -9223372036854775808 ≤ x) (h2 : x ≤ 9223372036854775807) :
    IntsAt (W.setCell ⟨b, j, none⟩ (.int .i64 x)) (some ⟨b, 0, none⟩) len (zs.set j x) ∧ (W.setCell ⟨b, j, none⟩ (.int .i64 x)).heap[b]? = some (.cells (cur.setIfInBounds j (.int .i64 x)) t (0, 0)) := by
  have hh := heap_setCell_same W b j cur t (.int .i64 x) hc
  obtain ⟨k1, k2, k3, k4⟩ := h
  refine ⟨⟨by rw [List.length_set]; exact k1, k2, k3.set j x h1 h2, .inr ⟨b, 0, rfl, fun q hq => ?_⟩⟩, hh⟩
  rcases k4 with k4 | ⟨b', off', ha, hcell⟩
  · omega
  · cases ha
    have e1 := hcell q hq
    have e2 := hcell j hj
    rw [cell_of_row W b _ cur t (0, 0) hc] at e1 e2
    rw [cell_of_row _ b _ _ t (0, 0) hh]
    rw [Nat.zero_add] at e1 e2 ⊢
    have hjs : j < cur.size := (Array.getElem?_eq_some_iff.1 e2).1
    rw [Array.getElem?_setIfInBounds]
    by_cases c : j = q
    · subst c
      rw [if_pos rfl, if_pos hjs]
      simp [List.getD, show j < zs.length by omega]
    · rw [if_neg c, e1]
      simp [List.getD, List.getElem?_set_ne c]
/-- The first numbers are multiplied. -/
def mulS (s : Int) (st : List Int) (j : Nat) : List Int := (st.take j).map (· * s) ++ st.drop j
theorem mulS_zero (s : Int) (st : List Int) : mulS s st 0 = st := by simp [mulS]
theorem mulS_all (s : Int) (st : List Int) : mulS s st st.length = st.map (· * s) := by simp [mulS]
theorem mulS_at (s : Int) {st : List Int} {j : Nat} (hj : j < st.length) : (mulS s st j).getD j 0 = st.getD j 0 := by
  unfold mulS
  simp only [List.getD_eq_getElem?_getD]
  rw [List.getElem?_append_right (by simp; omega)]
  simp [Nat.min_eq_left (Nat.le_of_lt hj)]
theorem mulS_step (s : Int) {st : List Int} {j : Nat} (hj : j < st.length) : (mulS s st j).set j (st.getD j 0 * s) = mulS s st (j + 1) := by
  unfold mulS
  rw [List.set_append_right _ _ (by simp; omega)]
  have e1 : st.drop j = st.getD j 0 :: st.drop (j + 1) := by
    rw [List.drop_eq_getElem_cons hj]
    simp [List.getD, List.getElem?_eq_getElem hj]
  have e2 : st.take (j + 1) = st.take j ++ [st.getD j 0] := by
    rw [List.take_add_one, List.getElem?_eq_getElem hj]
    simp [List.getD, List.getElem?_eq_getElem hj]
  rw [e2, e1]
  simp [Nat.min_eq_left (Nat.le_of_lt hj)]
theorem digs_low {s : List Int} (h : allR 1 1024 s = true) (p : Int) : ∀ x ∈ digs s p, 0 ≤ x ∧ x < 1024 := by
  induction s with
  | nil => intro x hx; cases hx
  | cons y s ih =>
    obtain ⟨⟨y1, y2⟩, hs⟩ := allR_cons h
    intro x hx
    simp only [digs, List.mem_cons] at hx
    rcases hx with rfl | hx
    · have := Int.emod_nonneg (p / prodI s) (show y ≠ 0 by omega)
      have := Int.emod_lt_of_pos (p / prodI s) (show 0 < y by omega)
      omega
    · exact ih hs x hx

/-- Between two rounds: the boxes, and the numbers of the places so far. -/
def PlI (a : Option Addr) (len cap : Nat) (s : Int) (f : Nat → Int) (C3 : Array Value) (w : World) (pre : List (Nat × List Int)) (O : BSet) (W : World) : Prop :=
  Has O W w.heap.size #[.slice a len cap] 23 ∧ Has O W (w.heap.size + 1) #[.int .i64 s] 3 ∧
    (∃ v, Has O W (w.heap.size + 2) #[v] 22 ∧ W.ownsRow (w.heap.size + 4) 3 1 v pre.length (((List.range pre.length).map f).map (Value.int .i64)) ∧ (∀ q, v.ownBlock = some q → ¬ O q)) ∧ Base w O W ∧ (∀ k, O k → k < W.heap.size) ∧ Has O W (w.heap.size + 3) C3 23
theorem PlI.stable (a : Option Addr) (len cap : Nat) (s : Int) (f : Nat → Int) (C3 : Array Value) (w : World) (pre : List (Nat × List Int)) : Stable (PlI a len cap s f C3 w pre) := by
  rintro O W O' W' ⟨h1, h2, ⟨v, h3, h4, h5⟩, h6, h7, h8⟩ hs
  obtain ⟨r1, r2⟩ := row_keeps h4 h5 hs
  exact ⟨h1.stable hs, h2.stable hs, ⟨v, h3.stable hs, r1, r2⟩, h6.stable hs, fun k hk => (hs.top k hk).elim (fun h => Nat.lt_of_lt_of_le (h7 k h) hs.size) id, h8.stable hs⟩

set_option maxRecDepth 100000 in
set_option maxHeartbeats 8000000 in
theorem places_any (xa : Option Addr) (xl xc : Nat) (xs : List Int) (pa : Option Addr) (pl pc : Nat) (ps : List Int) (s : Int) (w : World) (h : IntsAt w xa xl xs) (h' : IntsAt w pa pl ps) (hr : rightS ps = true) (N : Nat) (hN : prodI ps = N) (hs1 : 0 ≤ s) (hs2 : s ≤ 1024) :
    Calls Try.prog 49 #[.slice xa xl xc, .slice pa pl pc, .int .i64 s] w (NewInts w N ((List.range N).map (placeL xs ps s))) := by
  have hN6 : N ≤ 65536 := by have := (rightS_parts hr).2.2.2; omega
  have hl := h'.1
  have hl1 : 0 < pl := by have := (rightS_parts hr).1; omega
  have hl4 : pl ≤ 4 := by have := (rightS_parts hr).2.1; omega
  have hAl : (allL ps).length = N := by have := allL_length hr; omega
  obtain ⟨B, hB⟩ : ∃ B, w.heap.size = B := ⟨_, rfl⟩
  have HB := Lib.hid hB
  have HX := Lib.hid h
  have HP := Lib.hid h'
  have HR := Lib.hid hr
  have HAL := Lib.hid hAl
  clear h h' hB hr hN hAl
  refine (callsIn_wide (n := 1)).1 ?_
  refine callsIn_of_wp_marks Try.func49 rfl trivial ?_ rfl
  simp only [Try.ntmps49, List.size_toArray, List.length_cons, List.length_nil, Nat.reduceAdd, Nat.reduceSub, Array.replicate_succ, Array.replicate_zero, List.push_toArray, List.append_toArray, List.nil_append, List.cons_append]
  refine wpIn_wide.2 ?_
  go_wp2_with fail
  refine (all_any _ _ _ _).mono ?_
  rintro e w' ⟨rfl, rfl⟩
  obtain ⟨W, hW⟩ : ∃ W, ((((w.alloc (.cells #[.slice xa xl xc] 23)).alloc (.cells #[.int .i64 s] 3)).alloc (.cells #[.slice none 0 0] 22)).alloc (.cells #[.slice pa pl pc] 23)) = W := ⟨_, rfl⟩
  have bel : ∀ (V : World) (o : Obj), Below V.heap.size V (V.alloc o) := fun V o => (Below.refl _ _).alloc (Nat.le_refl _) _
  have z1 := bel w (.cells #[.slice xa xl xc] 23)
  generalize hV1 : w.alloc (.cells #[.slice xa xl xc] 23) = V1 at z1 hW
  have s1 : V1.heap.size = B + 1 := by rw [← hV1, ← HB.out]; simp
  have p1 : Has (fun _ => False) V1 B #[.slice xa xl xc] 23 := by rw [← hV1, ← HB.out]; exact Has.made w _ _ (fun h => h)
  have z2 := bel V1 (.cells #[.int .i64 s] 3)
  generalize hV2 : V1.alloc (.cells #[.int .i64 s] 3) = V2 at z2 hW
  have s2 : V2.heap.size = B + 2 := by rw [← hV2]; simp [s1]
  have p2 : Has (fun _ => False) V2 (B + 1) #[.int .i64 s] 3 := by rw [← hV2, ← s1]; exact Has.made V1 _ _ (fun h => h)
  have z3 := bel V2 (.cells #[.slice none 0 0] 22)
  generalize hV3 : V2.alloc (.cells #[.slice none 0 0] 22) = V3 at z3 hW
  have s3 : V3.heap.size = B + 3 := by rw [← hV3]; simp [s2]
  have p3 : Has (fun _ => False) V3 (B + 2) #[.slice none 0 0] 22 := by rw [← hV3, ← s2]; exact Has.made V2 _ _ (fun h => h)
  have z4 := bel V3 (.cells #[.slice pa pl pc] 23)
  rw [hW] at z4
  have s4 : W.heap.size = B + 4 := by rw [← hW]; simp [s3]
  have q4 : Has (fun _ => False) W (B + 3) #[.slice pa pl pc] 23 := by rw [← hW, ← s3]; exact Has.made V3 _ _ (fun h => h)
  have p4 : W.cell? ⟨B + 3, 0, none⟩ = some (.slice pa pl pc) := by rw [← hW, World.cell?_alloc_at _ _ _ _ (by simp [s3])]; rfl
  have q3 := p3.below z4
  have q2 := (p2.below z3).below z4
  have q1 := ((p1.below z2).below z3).below z4
  have z : Below w.heap.size w W := by
    refine z1.trans ((z2.mono ?_).trans ((z3.mono ?_).trans (z4.mono ?_))) <;> (have := HB.out; omega)
  have hXW := HX.out.kept z
  have hPW := HP.out.kept z
  have hal' : ∀ ad, pa = some ad → ad.block < B := by
    intro ad had
    rcases HP.out.2.2.2 with h4 | ⟨b, off, ha, hc⟩
    · omega
    · rw [ha] at had; cases had; rw [← HB.out]; exact World.block_lt_of_cell? w _ (hc 0 hl1)
  rw [← HB.out] at q1 q2 q3 q4
  have r0 : PlI xa xl xc s (placeL xs ps s) #[.slice pa pl pc] w [] (fun _ => False) W := ⟨q1, q2, ⟨_, q3, World.ownsRow_nil _ _ _ _, fun _ h => by cases h⟩, ⟨z, fun _ h => h.elim⟩, fun _ h => h.elim, q4⟩
  simp only [s1, s2, s3, hV1, hV2, hV3]
  rw [hW]
  simp only [HB.out, Nat.add_assoc, Nat.reduceAdd]
  clear hW hV1 hV2 hV3 z1 z2 z3 z4 s1 s2 s3 p1 p2 p3 q1 q2 q3 q4 bel
  go_wp2_with fail
  refine (wpIn_wide (n := 1)).1 ?_
  obtain ⟨i0, hi, hz0, hz1, hz2⟩ := info_parts intInfo
  refine range_lawF (gf := 68) (lb := #[.pointer (some ⟨B + 3, 0, none⟩)]) rfl (enters_of Try.func68 (by kernel_rfl) rfl) (all_iterF (B + 3) pa pl pc ps hl) (fun _ _ _ _ _ => AllG.free) (fun _ _ => rfl) ?hR
    (fun st y O W D l o o' h1 h2 h3 => IdxG.keep (st := st.2) D l o o' h1 h2 h3) (fun W' hb' => ⟨cell_later hb' p4, hPW.kept hb'⟩)
    (PlI xa xl xc s (placeL xs ps s) #[.slice pa pl pc] w) (fun _ _ _ _ => False) (PlI.stable xa xl xc s (placeL xs ps s) #[.slice pa pl pc] w) (fun _ _ _ _ _ _ h _ => h) r0 ?round ?done ?stop
  case hR =>
    rintro k (rfl | ⟨ad, had, rfl⟩)
    · omega
    · have := hal' ad had; omega
  case stop =>
    intro D O c pre W' _ _ _ h
    exact h.elim
  case done =>
    rintro D O W' hD hO hdef ⟨g1, g2, ⟨v, g3, gr, gno⟩, gB, gt, g4⟩
    rw [HAL.out] at gr
    have c2 : W'.cell? ⟨B + 2, 0, none⟩ = some v := by rw [← HB.out]; exact g3.cell 0
    have hDq : ∀ q, v.ownBlock = some q → q ≠ D := fun q hq e => gno q hq (e ▸ hO)
    have fin : (W'.putObj D (.deferred none)).ownsRow w.heap.size 3 1 v N (((List.range N).map (placeL xs ps s)).map (Value.int .i64)) ∧ Below w.heap.size w (W'.putObj D (.deferred none)) :=
      ⟨Joins.ownsRow_le (row_keeps gr gno (ItStep.putObj W' D (.deferred none) hO)).1 (by omega), below_putObj gB.1 D _ (by have := HB.out; omega)⟩
    have P : ∃ A c, v = .slice A N c := by
      rcases Joins.ownsRow_forms gr with ⟨e1, e2⟩ | ⟨g, c, e1⟩
      · subst e2; exact ⟨_, _, e1⟩
      · exact ⟨_, _, e1⟩
    obtain ⟨A, c, rfl⟩ := P
    have F := Lib.hid fin
    have HD := Lib.hid hdef
    clear fin hdef g1 g2 g3 gr gno gB gt g4 hDq
    go_wp2_with fail
    exact leaves_mark HD.out ⟨_, results_tmp (t := 6) rfl _ _ _, A, c, rfl, F.out.1, F.out.2⟩
  case round =>
    rintro l pre ⟨k, st⟩ ⟨y1, y2⟩ rest O Wa W2 hxs hPL hE
    have GG := Lib.hid hPL
    obtain ⟨g1, g2, ⟨v, g3, gr, gno⟩, gB, gt, g4⟩ := hPL
    have hpl : pre.length + 1 ≤ N := by
      have := congrArg List.length hxs
      rw [HAL.out] at this
      simp at this
      omega
    obtain ⟨rfl, rfl, hpr⟩ := allL_split HR.out hxs
    have hst : (digs ps (pre.length : Int)).length = pl := by rw [digs_length, hl]
    obtain ⟨b, rfl, hbO⟩ : ∃ b, y1 = some ⟨b, 0, none⟩ ∧ O b := by
      rcases hE.1.2.2.2 with ⟨e1, -⟩ | hh
      · have := congrArg List.length e1
        simp only at this
        rw [hst] at this
        simp at this
        omega
      · exact hh
    obtain ⟨cur, hcur⟩ := hE.2 _ rfl
    have E1 : IntsAt W2 (some ⟨b, 0, none⟩) pl (digs ps (pre.length : Int)) := by have := hE.1.1; rw [hst] at this; exact this
    have hlow := Lib.hid (digs_low (rightS_parts HR.out).2.2.1 (pre.length : Int))
    obtain ⟨n, hn⟩ : ∃ n, pre.length = n := ⟨_, rfl⟩
    rw [hn] at gr hpl
    have HNN := Lib.hid hn
    simp only [hn] at hE
    rw [hn] at hst hlow E1
    obtain ⟨st, hste⟩ : ∃ st, digs ps (n : Int) = st := ⟨_, rfl⟩
    have PL : Hid (placeL xs ps s n = placeN xs (st.map (· * s))) := Lib.hid (by unfold placeL; rw [hste])
    simp only [hn, hste]
    rw [hste] at hst hlow E1
    rw [show allV (n, st) (some ⟨b, 0, none⟩, y2) = #[.int .i64 n, .slice (some ⟨b, 0, none⟩) pl y2] by simp only [allV]; rw [hst]]
    rw [HB.out] at g1 g2 g3 g4
    have c0 : W2.cell? ⟨B, 0, none⟩ = some (.slice xa xl xc) := g1.cell 0
    have c1 : W2.cell? ⟨B + 1, 0, none⟩ = some (.int .i64 s) := g2.cell 0
    obtain ⟨M, hM⟩ : ∃ M : BSet, (fun q => BackR (B + 3) pa q ∨ (O q ∧ ¬ FreeA (n, st) (some ⟨b, 0, none⟩, y2) q)) = M := ⟨_, rfl⟩
    have hMb : ¬ M b := by
      rw [← hM]
      rintro ((h | ⟨ad, had, h⟩) | h)
      · exact g4.1 (h ▸ hbO)
      · have := hal' ad had; have := gB.2 b hbO; rw [HB.out] at this; omega
      · exact h.2 ⟨_, rfl, rfl⟩
    have I0 : Hid (IntsAt W2 (some ⟨b, 0, none⟩) pl (mulS s st 0)) := Lib.hid (by rw [mulS_zero]; exact E1)
    have G1 := Lib.hid g1
    have G2 := Lib.hid g2
    have HST := Lib.hid hst
    have HMB := Lib.hid hMb
    have CUR : Hid (∃ cur, W2.heap[b]? = some (.cells cur 3 (0, 0))) := Lib.hid ⟨cur, hcur⟩
    have G3 := Lib.hid g3
    have G4 := Lib.hid (And.intro gr (And.intro gno (And.intro gB (And.intro gt g4))))
    have HBO := Lib.hid hbO
    clear hcur hxs hE g1 g2 g3 gr gno gB gt g4 hst hMb E1 hste hn hpr
    gi_wp2
    refine ⟨trivial, ?_⟩
    gi_wp2_with fail
    gi_loopw [19] (fun i wr => ∃ j : Nat, j ≤ pl ∧ i = .int .i64 j ∧ Hid (IntsAt wr (some ⟨b, 0, none⟩) pl (mulS s st j)) ∧ Hid (∃ cur, wr.heap[b]? = some (.cells cur 3 (0, 0))) ∧ Hid (ItStep O W2 O wr) ∧ Hid (RdStep M W2 wr)) (fun i _ => pl - (intOf i).toNat)
    case atStart => exact ⟨0, Nat.zero_le _, rfl, I0, CUR, Lib.hid (ItStep.refl _ _), Lib.hid (RdStep.refl _ _)⟩
    case round =>
      obtain ⟨j, hj, rfl, hI, hcr, hit, hrd⟩ := hrel
      by_cases hlt : j < pl
      · obtain ⟨cu, hcu⟩ := hcr.out
        obtain ⟨x, hx⟩ : ∃ x, st.getD j 0 = x := ⟨_, rfl⟩
        have hxl : 0 ≤ x ∧ x < 1024 := by
          rw [← hx]
          have hjl : j < st.length := by rw [HST.out]; exact hlt
          have : st.getD j 0 = st[j] := by simp [List.getD, List.getElem?_eq_getElem hjl]
          rw [this]
          exact hlow.out _ (List.getElem_mem hjl)
        have k1 : wr.cell? ⟨b, j, none⟩ = some (.int .i64 x) := by
          rcases hI.out.2.2.2 with h4 | ⟨b', off', ha, hc⟩
          · omega
          · cases ha
            have := hc j hlt
            rwa [Nat.zero_add, mulS_at s (by rw [HST.out]; exact hlt), hx] at this
        have f1 := frozen_of_row wr b j cu _ hcu
        have k2 : wr.cell? ⟨B + 1, 0, none⟩ = some (.int .i64 s) := (G2.out.stable hit.out).cell 0
        have x0 : 0 ≤ x * s := Int.mul_nonneg hxl.1 hs1
        have x1 : x * s ≤ 1024 * 1024 := Int.mul_le_mul (by omega) hs2 hs1 (by omega)
        obtain ⟨y, hy⟩ : ∃ y, x * s = y := ⟨_, rfl⟩
        have hw1 : IntKind.i64.wrap y = y := IntWalk.i64_in _ (by omega)
        obtain ⟨n1, n2⟩ := ints_set hI.out hcu hlt (x := y) (by omega) (by omega)
        rw [← hy, ← hx, mulS_step s (by rw [HST.out]; exact hlt)] at n1
        rw [hx, hy] at n1
        have N1 : Hid (IntsAt (wr.setCell ⟨b, j, none⟩ (.int .i64 y)).drew (some ⟨b, 0, none⟩) pl (mulS s st (j + 1))) := Lib.hid n1
        have N2 : Hid (∃ cur, (wr.setCell ⟨b, j, none⟩ (.int .i64 y)).drew.heap[b]? = some (.cells cur 3 (0, 0))) := Lib.hid ⟨_, n2⟩
        have N3 := Lib.hid ((hit.out.trans (ItStep.setCell wr ⟨b, j, none⟩ (.int .i64 y) HBO.out)).trans (ItStep.of_below (Below.refl _ _).drew))
        have N4 := Lib.hid ((hrd.out.trans (RdStep.setCell (M := M) wr ⟨b, j, none⟩ (.int .i64 y) HMB.out)).trans (RdStep.of_below (Below.refl _ _).drew))
        clear n1 n2 hcu hx
        gi_wp2_with fail
        refine round_cutQ (ι := Unit) (fun _ => True) (fun _ a => (((((((a.put (some 22) (.slice (some ⟨b, 0, none⟩) pl y2)).put (some 23) (.int .i64 j)).put (some 24) (.pointer (some ⟨b, j, none⟩))).put (some 25) (.int .i64 x)).put (some 26) (.int .i64 s)).put (some 27) (.int .i64 y)).put (some 28) (.pointer (some ⟨b, j, none⟩)))) (fun _ => (wr.setCell ⟨b, j, none⟩ (.int .i64 y)).drew) (fun w' => w'.cell? ⟨B + 1, 0, none⟩ = some (.int .i64 s)) (by kernel_rfl) (by kernel_rfl) k2 (fun hHeld => ?_) (fun _ _ => ?_)
        · refine held_take 0 ((.slice (some ⟨b, 0, none⟩) pl y2)) rfl (by kernel_rfl) (by kernel_rfl) (by kernel_rfl) (fun _ _ _ h => by obtain ⟨_, _, h, _⟩ := h; cases h) (by rfl) (by intro w' hS; go_simp) (by assumption) ?_
          try simp only [Act.put, List.setIfInBounds_toArray, List.set_cons_zero, List.set_cons_succ]
          refine held_take 1 ((.int .i64 j)) rfl (by kernel_rfl) (by kernel_rfl) (by kernel_rfl) (fun _ _ _ h => by obtain ⟨_, _, h, _⟩ := h; cases h) (by rfl) (by intro w' hS; go_simp) (by assumption) ?_
          try simp only [Act.put, List.setIfInBounds_toArray, List.set_cons_zero, List.set_cons_succ]
          refine held_take 2 ((.pointer (some ⟨b, j, none⟩))) rfl (by kernel_rfl) (by kernel_rfl) (by kernel_rfl) (fun _ _ _ h => by obtain ⟨_, _, h, _⟩ := h; cases h) (by rfl) (by intro w' hS; go_simp) (by assumption) ?_
          try simp only [Act.put, List.setIfInBounds_toArray, List.set_cons_zero, List.set_cons_succ]
          refine held_take 4 ((.int .i64 s)) rfl (by kernel_rfl) (by kernel_rfl) (by kernel_rfl) (fun _ _ _ h => by obtain ⟨_, _, h, _⟩ := h; cases h) (by rfl) (by intro w' hS; go_simp) (by assumption) ?_
          try simp only [Act.put, List.setIfInBounds_toArray, List.set_cons_zero, List.set_cons_succ]
          refine held_call 3 (by kernel_rfl) rfl (by rfl) (fun K hK => ?_)
          go_simp
          refine hK.out _ _ hHeld (fun hHeld => ?_)
          try simp only [Act.put, List.setIfInBounds_toArray, List.set_cons_zero, List.set_cons_succ]
          refine held_take 5 ((.int .i64 y)) rfl (by kernel_rfl) (by kernel_rfl) (by kernel_rfl) (fun _ _ _ h => by obtain ⟨_, _, h, _⟩ := h; cases h) (by rfl) (by intro w' hS; go_simp) (by assumption) ?_
          try simp only [Act.put, List.setIfInBounds_toArray, List.set_cons_zero, List.set_cons_succ]
          refine held_take 6 ((.pointer (some ⟨b, j, none⟩))) rfl (by kernel_rfl) (by kernel_rfl) (by kernel_rfl) (fun _ _ _ h => by obtain ⟨_, _, h, _⟩ := h; cases h) (by rfl) (by intro w' hS; go_simp) (by assumption) ?_
          try simp only [Act.put, List.setIfInBounds_toArray, List.set_cons_zero, List.set_cons_succ]
          have sS : (wr.drew.setCell ⟨b, j, none⟩ (.int .i64 y)).cell? ⟨B + 1, 0, none⟩ = some (.int .i64 s) := (G2.out.stable N3.out).cell 0
          refine held_call 7 (by kernel_rfl) rfl (by rfl) (fun K hK => ?_)
          go_simp
          refine hK.out _ _ sS (fun hHeld => ?_)
          try simp only [Act.put, List.setIfInBounds_toArray, List.set_cons_zero, List.set_cons_succ]
          refine wpAnyH_done (by kernel_rfl) ?_ _
          exact ⟨(), trivial, rfl, rfl, rfl⟩
        gi_wp2_with fail
        go_roundw
        case rel => exact ⟨j + 1, by omega, by go_num, N1, N2, N3, N4⟩
        case measure => (simp [intOf]; try omega)
      · obtain rfl : j = pl := by omega
        have hms : mulS s st j = st.map (· * s) := by rw [← HST.out]; exact mulS_all s st
        rw [hms] at hI
        have c0 : wr.cell? ⟨B, 0, none⟩ = some (.slice xa xl xc) := (G1.out.stable hit.out).cell 0
        have PC := place_any xa xl xc xs (some ⟨b, 0, none⟩) j y2 (st.map (· * s)) wr (HX.out.kept (G4.out.2.2.1.stable hit.out).1) hI.out
        obtain ⟨p, hp⟩ : ∃ p, placeN xs (st.map (· * s)) = p := ⟨_, rfl⟩
        obtain ⟨pe, hpe⟩ : ∃ p, placeE xs (st.map (· * s)) = p := ⟨_, rfl⟩
        rw [hp, hpe] at PC
        rw [hp] at PL
        have PC1 := Lib.hid PC
        clear PC hp hpe hms hI hcr I0 CUR G1 G2 G3 G4 HMB HBO c1
        gi_wp2_with fail
        refine ⟨trivial, rfl, (CallsIn.inRound l (callsIn_wide.2 PC1.out)).mono ?_⟩
        rintro e w5 ⟨rfl, hb5⟩
        have it5 := hit.out.trans (ItStep.of_below hb5)
        have rd5 := Lib.hid (hrd.out.trans (RdStep.of_below hb5))
        obtain ⟨u1, u2, ⟨v, u3, ur, uno⟩, uB, ut, u4⟩ := PlI.stable _ _ _ _ _ _ _ _ _ _ _ _ GG.out it5
        rw [HNN.out] at ur
        rw [HB.out] at u1 u2 u3 u4 ur
        have hs5 : B + 4 ≤ w5.heap.size := by have := u4.lt; omega
        have c2 : w5.cell? ⟨B + 2, 0, none⟩ = some v := u3.cell 0
        have f2 := u3.frozen 0
        have hal := ur.alloc (.cells #[.int .i64 p] 3)
        have hnew := box_cell w5 p 3
        have hone : ∀ u ∈ [Value.int .i64 p], u.oneCell' = true := by intro u hu; simp at hu; subst hu; rfl
        have hlen6 : n + 1 ≤ maxLen := by unfold maxLen; omega
        have hby6 : (n + 1) * 8 ≤ 140737488355328 := by omega
        have hbs6 : B + 4 ≤ (w5.alloc (.cells #[.int .i64 p] 3)).heap.size := by simp; omega
        have U := Lib.hid (And.intro u1 (And.intro u2 (And.intro u3 (And.intro ur (And.intro uno (And.intro uB (And.intro ut u4)))))))
        clear u1 u2 u3 ur uno uB ut u4 it5 hb5 hit hrd c0 PC1 hlow
        gi_wp2_with (gi_at_builtin; refine wpListIn_append_new _ rfl _ _ 22 rfl (B + 4) 3 i0 (.int .i64 0) 1 8 Try.underlying22 hi hz0 hz1 hz2 rfl (by decide) v n (((List.range n).map (placeL xs ps s)).map (Value.int .i64)) rfl hal ⟨w5.heap.size, 0, none⟩ 1 1 [.int .i64 p] rfl rfl hnew hone hlen6 hby6 hbs6 ?_)
        intro v' w6 hown hgrow hwhere
        obtain ⟨g', cap', rfl⟩ := ownsRow_succ hown
        obtain ⟨u1, u2, u3, ur, uno, uB, ut, u4⟩ := U.out
        have hrow4 : ∀ q, v.ownBlock = some q → B + 4 ≤ q := fun q hq => (ur.lt q hq).1
        have keep : ∀ k, k < w5.heap.size → some k ≠ v.ownBlock → w6.heap[k]? = w5.heap[k]? := fun k hk hne => (hgrow.block k (by simp; omega) hne).trans (Below.heap_alloc _ _ _ hk)
        have low : ∀ k, k < B + 4 → some k ≠ v.ownBlock := fun k hk e => by have := hrow4 k e.symm; omega
        have a1 : Has O w6 (B + 2) #[v] 22 := ⟨u3.1, (keep _ (by omega) (low _ (by omega))).trans u3.2⟩
        have c3 : w6.cell? ⟨B + 2, 0, none⟩ = some v := a1.cell 0
        have f3 := a1.frozen 0
        have ho' := Lib.hid hown
        have fin : RdStep M W2 (w6.setCell ⟨B + 2, 0, none⟩ (.slice (some ⟨g', 0, none⟩) (n + 1) cap')) ∧ PlI xa xl xc s (placeL xs ps s) #[.slice pa j pc] w (pre ++ [((n : Nat), st)]) O (w6.setCell ⟨B + 2, 0, none⟩ (.slice (some ⟨g', 0, none⟩) (n + 1) cap')) := by
          have hsz6 : w5.heap.size ≤ (w6.setCell ⟨B + 2, 0, none⟩ (.slice (some ⟨g', 0, none⟩) (n + 1) cap')).heap.size := by have := hgrow.size; simp at this ⊢; omega
          have keep2 : ∀ k, k < w5.heap.size → some k ≠ v.ownBlock → k ≠ B + 2 → (w6.setCell ⟨B + 2, 0, none⟩ (.slice (some ⟨g', 0, none⟩) (n + 1) cap')).heap[k]? = w5.heap[k]? := fun k hk h1 h2 => (Below.heap_setCell w6 ⟨B + 2, 0, none⟩ _ k h2).trans (keep k hk h1)
          have hbf : Below w.heap.size w5 (w6.setCell ⟨B + 2, 0, none⟩ (.slice (some ⟨g', 0, none⟩) (n + 1) cap')) :=
            ((((Below.refl _ w5).alloc (by rw [HB.out]; omega) (.cells #[.int .i64 p] 3)).grown hgrow (by rw [HB.out]; simp; omega) (fun q hq => by have := hrow4 q hq; rw [HB.out]; omega)).setCell (p := ⟨B + 2, 0, none⟩) (by rw [HB.out]; simp) (.slice (some ⟨g', 0, none⟩) (n + 1) cap'))
          refine ⟨rd5.out.trans ⟨hbf.os, hbf.tape, hbf.output, hsz6, fun k hk hm => ?_⟩, ?_, ?_, ⟨.slice (some ⟨g', 0, none⟩) (n + 1) cap', ?_, ?_, ?_⟩, ⟨uB.1.trans hbf, uB.2⟩, fun k hk => Nat.lt_of_lt_of_le (ut k hk) hsz6, ?_⟩
          · rw [← hM] at hm
            refine keep2 k hk (fun e => ?_) (fun e => ?_)
            · rcases hm with (h | ⟨ad, had, h⟩) | h
              · exact low k (by omega) e
              · exact low k (by have := hal' ad had; omega) e
              · exact uno k e.symm h.1
            · rcases hm with (h | ⟨ad, had, h⟩) | h
              · omega
              · have := hal' ad had; omega
              · exact u3.1 (e ▸ h.1)
          · rw [HB.out]; exact ⟨u1.1, (keep2 _ (by omega) (low _ (by omega)) (by omega)).trans u1.2⟩
          · rw [HB.out]; exact ⟨u2.1, (keep2 _ (by omega) (low _ (by omega)) (by omega)).trans u2.2⟩
          · rw [HB.out]; exact a1.set 0 _
          · rw [HB.out]
            have e1 : (pre ++ [((n : Nat), st)]).length = n + 1 := by simp [HNN.out]
            rw [e1, List.range_succ, List.map_append, List.map_append]
            simp only [List.map_cons, List.map_nil, PL.out, List.map_map]
            exact row_far ho'.out (by simp)
          · intro q hq ho
            rcases hwhere q hq with h | h
            · exact uno q h ho
            · have := ut q ho; have h' := h; try simp at h'
              omega
          · rw [HB.out]; exact ⟨u4.1, (keep2 _ (by omega) (low _ (by omega)) (by omega)).trans u4.2⟩
        have F := Lib.hid fin
        clear fin u1 u2 u3 ur uno uB ut u4 hrow4 keep low a1 hown hgrow hwhere hal hnew ho'
        gi_wp2_with fail
        first | exact F.out | (rw [hM]; exact F.out)
end Go.Proofs.Ytapelgjnnccfoaa

