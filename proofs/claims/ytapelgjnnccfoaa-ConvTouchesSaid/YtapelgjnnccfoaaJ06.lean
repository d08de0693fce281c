import Derived.Test.YtapelgjnnccfoaaJ00
import Derived.Test.YtapelgjnnccfoaaJ01
import Derived.Test.YtapelgjnnccfoaaJ04
import Derived.Test.YtapelgjnnccfoaaJ05
import Derived.RangeFuncCalls
import Derived.OwnWalkIn
import Derived.ArgAppend
/-
  Package shape's All: what it hands over may be overwritten.
-/
namespace Go.Proofs.Ytapelgjnnccfoaa
open Go.RowKit Go.Shelf
attribute [local go_sem] Oper.semAt_some
set_option linter.unusedVariables false
set_option linter.unusedSimpArgs false

/-- The block of the index list that All hands over. -/
def FreeA (x : Nat × List Int) (y : Option Addr × Nat) : BSet := FreeI x.2 y
def AllG (x : Nat × List Int) (y : Option Addr × Nat) (O : BSet) (W : World) : Prop := IdxG x.2 y O W
theorem AllG.free {x : Nat × List Int} {y : Option Addr × Nat} {O : BSet} {W : World} {k : Nat} (h : AllG x y O W) (hf : FreeA x y k) : O k := IdxG.free h hf
theorem idxN_size {zs : List Int} (h : rightS zs = true) : (idxN zs zs.length).length ≤ 65536 := by
  rw [idxN_digs zs (rightS_parts h).2.2.1 zs.length (Nat.le_refl _), List.length_map, List.length_range, List.take_of_length_le (Nat.le_refl _)]
  have := (rightS_parts h).2.2.2
  omega

set_option maxRecDepth 100000 in
set_option maxHeartbeats 2000000 in
/-- A shape that is not valid has no places. -/
theorem allS_wrongF (R : BSet) (Bx : Nat) (a : Option Addr) (len cap : Nat) (zs : List Int) (hr : rightS zs = false) :
    IterOfF Try.prog 68 #[.pointer (some ⟨Bx, 0, none⟩)] R (BackC Bx a len cap zs) (allL zs) allV AllG FreeA := by
  intro l J Jx sJ sJx hY W hC h0
  have hx : allL zs = [] := by unfold allL; rw [if_neg (by rw [hr]; simp)]
  rw [hx]
  have z1 : Below W.heap.size W (W.alloc (.cells #[.func (.yield l) #[] #[]] 102)) := (Below.refl _ _).alloc (Nat.le_refl _) _
  have k1 := cell_later z1 hC.1
  have RM := rightM_any a len cap zs _ (hC.2.kept z1)
  rw [hr] at RM
  have R1 := Lib.hid RM
  have fin := Lib.hid (fun w2 (hb : Below (W.alloc (.cells #[.func (.yield l) #[] #[]] 102)).heap.size (W.alloc (.cells #[.func (.yield l) #[] #[]] 102)) w2) => sJ [] _ _ _ _ h0 (ItStep.of_below (z1.trans (hb.mono z1.size))))
  clear RM hY hC h0 hx z1
  go_enter Try.func68, Try.ntmps68
  go_wp2_with fail
  refine R1.out.mono ?_
  rintro e w2 ⟨rfl, hb⟩
  have F := Lib.hid (fin.out w2 hb)
  clear hb
  go_wp2_with fail
  refine bodyPost_ret (results_none rfl _ _ _) rfl ?_
  exact ⟨⟨_, rfl⟩, .inl ⟨_, F.out⟩⟩

set_option maxRecDepth 100000 in
set_option maxHeartbeats 4000000 in
theorem allS_rightF (Bx : Nat) (a : Option Addr) (len cap : Nat) (zs : List Int) (hr : rightS zs = true)
    (IDX : ∀ Bx' b off cap', len ≤ cap' → cap' ≤ maxLen → IterOfF Try.prog 71 #[.pointer (some ⟨Bx', 0, none⟩)] (BackR Bx' (some ⟨b, off, none⟩)) (BackC Bx' (some ⟨b, off, none⟩) len cap' zs) (idxN zs len) idxV IdxG FreeI) :
    IterOfF Try.prog 68 #[.pointer (some ⟨Bx, 0, none⟩)] (BackR Bx a) (BackC Bx a len cap zs) (allL zs) allV AllG FreeA := by
  intro l J Jx sJ sJx hY0 W hC h0
  have hlen : zs.length = len := hC.2.1
  have hx : allL zs = enumL 0 (idxN zs len) := by unfold allL; rw [if_pos hr, hlen]
  rw [hx] at hY0 ⊢
  have hY := Lib.hid hY0
  clear hY0 hx
  have hl1 : 1 ≤ len := by have := (rightS_parts hr).1; omega
  have hl4 : len ≤ 4 := by have := (rightS_parts hr).2.1; omega
  have hn := idxN_size hr
  rw [hlen] at hn
  obtain ⟨B, hB⟩ : ∃ B, W.heap.size = B := ⟨_, rfl⟩
  have z1 : Below W.heap.size W (W.alloc (.cells #[.func (.yield l) #[] #[]] 102)) := (Below.refl _ _).alloc (Nat.le_refl _) _
  have k1 := cell_later z1 hC.1
  have R := rightM_any a len cap zs _ (hC.2.kept z1)
  rw [hr] at R
  have R1 := Lib.hid R
  have Z1 := Lib.hid z1
  have HC := Lib.hid hC
  have H0 := Lib.hid h0
  have HB := Lib.hid hB
  have HN := Lib.hid hn
  clear R hC h0 z1 hB hn hlen
  refine (callsIn_wide (n := 1)).1 ?_
  refine callsIn_of_wp_marks Try.func68 rfl trivial ?_ rfl
  simp only [Try.ntmps68, List.size_toArray, List.length_cons, List.length_nil, Nat.reduceAdd, Nat.reduceSub, Array.replicate_succ, Array.replicate_zero, List.push_toArray, List.append_toArray, List.nil_append, List.cons_append]
  refine wpIn_wide.2 ?_
  go_wp2_with fail
  refine R1.out.mono ?_
  rintro e w2 ⟨rfl, hb2⟩
  have z2 : Below W.heap.size W w2 := Z1.out.trans (hb2.mono Z1.out.size)
  have z3 : Below W.heap.size W (w2.alloc (.cells #[.int .i64 0] 3)) := z2.alloc z2.size _
  have k3 := cell_later z3 HC.out.1
  have CP := Lib.hid (copy_any a len cap zs _ (HC.out.2.kept z3) (by omega))
  have hB2 : w2.heap[B]? = some (.cells #[.func (.yield l) #[] #[]] 102 (0, 0)) := by
    rw [← HB.out]; exact (hb2.block _ (by simp)).trans (World.alloc_heap_new W _)
  have HB2 := Lib.hid hB2
  have Z2 := Lib.hid z2
  clear z2 z3 hB2 hb2 k1
  go_wp2_with fail
  refine CP.out.mono ?_
  rintro e w4 ⟨A, c4, rfl, ho, hb4⟩
  obtain ⟨g, c5, hv⟩ := Joins.ownsRow_form ho (by omega)
  simp only [Value.slice.injEq] at hv
  obtain ⟨rfl, -, rfl⟩ := hv
  clear k3
  have Z3 := Lib.hid (show Below W.heap.size W w4 from (Z2.out.alloc Z2.out.size (.cells #[.int .i64 0] 3)).trans (hb4.mono (Nat.le_trans Z2.out.size (by simp))))
  have HP := Lib.hid (show w4.heap[w2.heap.size]? = some (.cells #[.int .i64 0] 3 (0, 0)) from (hb4.block _ (by simp)).trans (World.alloc_heap_new w2 _))
  have HB4 := Lib.hid (show w4.heap[B]? = some (.cells #[.func (.yield l) #[] #[]] 102 (0, 0)) from
    (hb4.block B (by have := (Array.getElem?_eq_some_iff.1 HB2.out).1; simp; omega)).trans ((Below.heap_alloc w2 _ B (Array.getElem?_eq_some_iff.1 HB2.out).1).trans HB2.out))
  have HG := Lib.hid (And.intro (row_ints ho (by omega) HC.out.2.2.2.1) (And.intro (ho.lt g rfl).1 (And.intro (ho.lt g rfl).2 (show len ≤ c4 ∧ c4 ≤ maxLen from by
    rcases ho.2 with ⟨h, _⟩ | ⟨g', cap', cur, h, _, _, h1, h2, _⟩
    · cases h
    · cases h; exact ⟨h1, h2⟩))))
  have HS := Lib.hid (show w2.heap.size < w4.heap.size from (Array.getElem?_eq_some_iff.1 HP.out).1)
  clear ho hb4
  go_wp2_with fail
  refine (indices_any _ _ _ _).mono ?_
  rintro e w' ⟨rfl, rfl⟩
  obtain ⟨W5, hW5⟩ : ∃ W5, w4.alloc (.cells #[.slice (some ⟨g, 0, none⟩) len c4] 23) = W5 := ⟨_, rfl⟩
  obtain ⟨Cb, hCb⟩ : ∃ Cb, w4.heap.size = Cb := ⟨_, rfl⟩
  obtain ⟨Pl, hPl⟩ : ∃ Pl, w2.heap.size = Pl := ⟨_, rfl⟩
  have z5 : Below w4.heap.size w4 W5 := by rw [← hW5]; exact (Below.refl _ _).alloc (Nat.le_refl _) _
  have s5 : W5.heap.size = Cb + 1 := by rw [← hW5, ← hCb]; simp
  have a1 : W5.heap[B]? = some (.cells #[.func (.yield l) #[] #[]] 102 (0, 0)) := (z5.block B (Array.getElem?_eq_some_iff.1 HB4.out).1).trans HB4.out
  have a2 : W5.heap[Pl]? = some (.cells #[.int .i64 0] 3 (0, 0)) := by rw [← hPl]; exact (z5.block _ (Array.getElem?_eq_some_iff.1 HP.out).1).trans HP.out
  have a3 : W5.cell? ⟨Cb, 0, none⟩ = some (.slice (some ⟨g, 0, none⟩) len c4) := by rw [← hW5, World.cell?_alloc_at _ _ _ _ (by simp [hCb])]; rfl
  have a4 : IntsAt W5 (some ⟨g, 0, none⟩) len zs := HG.out.1.kept z5
  have b1 : B < Cb := by rw [← hCb]; exact (Array.getElem?_eq_some_iff.1 HB4.out).1
  have b2 : Pl < Cb := by rw [← hCb, ← hPl]; exact HS.out
  have b3 : g < Cb := by rw [← hCb]; exact HG.out.2.2.1
  have b4 : B < Pl := by rw [← hPl]; exact (Array.getElem?_eq_some_iff.1 HB2.out).1
  have b5 : Pl < g := by have := HG.out.2.1; simp at this; omega
  have hJ5 : J [] (fun k => False ∨ (B ≤ k ∧ k < Cb + 1)) W5 := by
    have z6 : Below W.heap.size W W5 := Z3.out.trans (z5.mono Z3.out.size)
    refine sJ [] _ _ _ _ H0.out ⟨z6.os, z6.tape, z6.output, z6.size, fun _ h => h.elim, fun k hk => ?_, fun k hk => ?_, fun k hk _ => z6.block k hk⟩
    · rcases hk with h | h
      · exact h.elim
      · exact .inr (by rw [HB.out]; exact h.1)
    · rcases hk with h | h
      · exact h.elim
      · exact .inr (by rw [s5]; exact h.2)
  rw [hW5]
  simp only [hCb, hPl, HB.out]
  clear hW5 z5
  go_wp2_with fail
  refine (wpIn_wide (n := 1)).1 ?_
  refine range_lawF (gf := 71) (lb := #[.pointer (some ⟨Cb, 0, none⟩)]) rfl (enters_of Try.func71 (by kernel_rfl) rfl) (IDX Cb g 0 c4 HG.out.2.2.2.1 HG.out.2.2.2.2) (fun _ _ _ _ _ => IdxG.free) (fun _ _ => rfl) ?hR
    (fun st y O W D l o o' h1 h2 h3 => h1.keep D l o o' h2 h3) (fun W' hb' => ⟨cell_later hb' a3, a4.kept hb'⟩)
    (AllI J l B Pl (Cb + 1)) (AllX Jx B (Cb + 1)) (AllI.stable sJ l B Pl (Cb + 1) (by omega) (by omega)) (AllX.stable sJx B (Cb + 1))
    ⟨hJ5, fun _ h => h.elim, by omega, a1, a2⟩ ?round ?done ?stop
  case hR =>
    rintro k (rfl | ⟨ad, had, rfl⟩)
    · omega
    · cases had; simp only; omega
  case stop =>
    rintro D O c pre W' hD hO hdef ⟨rfl, p, hx⟩
    have fin : ∃ pre O, Jx pre O (W'.putObj D (.deferred none)) := ⟨p, _, sJx _ _ _ _ _ hx (ItStep.putObj W' D _ (.inl hO))⟩
    have F := Lib.hid fin
    have HD := Lib.hid hdef
    clear fin hx hdef
    refine wpIn_wide.2 ?_
    go_wp2_with fail
    exact leaves_mark HD.out ⟨_, results_none rfl _ _ _, ⟨⟨_, rfl⟩, .inr F.out⟩⟩
  case done =>
    rintro D O W' hD hO hdef ⟨hj, -⟩
    have fin : ∃ O, J (enumL 0 (idxN zs len)) O (W'.putObj D (.deferred none)) := ⟨_, sJ _ _ _ _ _ hj (ItStep.putObj W' D _ (.inl hO))⟩
    have F := Lib.hid fin
    have HD := Lib.hid hdef
    clear fin hj hdef
    go_wp2_with fail
    exact leaves_mark HD.out ⟨_, results_none rfl _ _ _, ⟨⟨_, rfl⟩, .inl F.out⟩⟩
  case round =>
    rintro l' pre st ⟨y1, y2⟩ rest O Wa W2 hxs ⟨hj, hO, hsz, hyB, hPc⟩ hE
    have hst : st.length = len := idxN_len zs len st (by rw [hxs]; simp)
    have hk : pre.length < 65536 := by have := HN.out; rw [hxs] at this; simp at this; omega
    obtain ⟨k, hkl⟩ : ∃ k, pre.length = k := ⟨_, rfl⟩
    have hitems : enumL 0 (idxN zs len) = enumL 0 pre ++ (k, st) :: enumL (k + 1) rest := by rw [hxs, enumL_append]; simp [enumL, hkl]
    obtain ⟨fn, tmps, assign, body, hy, hR0⟩ := yield_any 0 (hY.out _ (k, st) (y1, y2) _ _ W2 hitems hj (hE.mono (fun k h => .inl h)))
    rw [show allV (k, st) (y1, y2) = #[.int .i64 k, .slice y1 len y2] by simp only [allV]; rw [hst]] at hy
    have hR : RoundIn (Fence.wide.inRound l') 0 Try.prog l fn tmps assign body W2 (fun e W' => ∃ bb : Bool, e = .returned (.bool bb) ∧ RdStep (fun k => BackR Bx a k ∨ ((O k ∨ (B ≤ k ∧ k < Cb + 1)) ∧ ¬ FreeI st (y1, y2) k)) W2 W' ∧
        (bb = true → J (enumL 0 pre ++ [(k, st)]) (fun k => O k ∨ (B ≤ k ∧ k < Cb + 1)) W') ∧ (bb = false → Jx (enumL 0 pre ++ [(k, st)]) (fun k => O k ∨ (B ≤ k ∧ k < Cb + 1)) W')) := by
      refine RoundIn.mono (show RoundIn (Fence.wide.inRound l') 0 Try.prog l fn tmps assign body W2 _ from hR0) ?_
      rintro e W' ⟨hrd, (⟨he, h⟩ | ⟨he, h⟩)⟩
      · exact ⟨true, he, hrd, fun _ => h, fun h' => by cases h'⟩
      · exact ⟨false, he, hrd, fun h' => (by cases h'), fun _ => h⟩
    rw [hkl] at hPc hk
    have cY : W2.cell? ⟨B, 0, none⟩ = some (.func (.yield l) #[] #[]) := by rw [cell_of_row W2 B 0 _ _ _ hyB]; rfl
    have cP : W2.cell? ⟨Pl, 0, none⟩ = some (.int .i64 k) := by rw [cell_of_row W2 Pl 0 _ _ _ hPc]; rfl
    have hfr : ∀ k, k < Cb + 1 → ¬ FreeI st (y1, y2) k := fun k hk hf => by have := hO k (hE.free hf); omega
    have nP : ¬ (BackR Cb (some ⟨g, 0, none⟩) Pl ∨ (O Pl ∧ ¬ FreeI st (y1, y2) Pl)) := by
      rintro ((h | ⟨ad, had, h⟩) | h)
      · omega
      · cases had; simp only at h; omega
      · have := hO Pl h.1; omega
    have next : ∀ W4, RdStep (fun k => BackR Bx a k ∨ ((O k ∨ (B ≤ k ∧ k < Cb + 1)) ∧ ¬ FreeI st (y1, y2) k)) W2 W4 → J (enumL 0 pre ++ [(k, st)]) (fun k => O k ∨ (B ≤ k ∧ k < Cb + 1)) W4 →
        rdPost (fun k => BackR Cb (some ⟨g, 0, none⟩) k ∨ (O k ∧ ¬ FreeI st (y1, y2) k)) O (AllI J l B Pl (Cb + 1)) (AllX Jx B (Cb + 1)) (pre ++ [st]) W2 .normal { tmps := #[], defers := [] } (W4.setCell ⟨Pl, 0, none⟩ (.int .i64 ((k : Int) + 1))) := by
      intro W4 h1 h2
      have hP4 : W4.heap[Pl]? = some (.cells #[.int .i64 k] 3 (0, 0)) := (h1.block Pl (by omega) (.inr ⟨.inr (by omega), hfr Pl (by omega)⟩)).trans hPc
      refine ⟨(h1.mono ?_).trans (RdStep.setCell W4 ⟨Pl, 0, none⟩ _ nP), sJ _ _ _ _ _ ?_ (ItStep.setCell W4 ⟨Pl, 0, none⟩ _ (.inr (by simp only; omega))), hO, ?_, ?_, ?_⟩
      · rintro q ((rfl | ⟨ad, had, rfl⟩) | hq)
        · exact .inr ⟨.inr (by omega), hfr _ (by omega)⟩
        · cases had; exact .inr ⟨.inr (by simp only; omega), hfr _ (by simp only; omega)⟩
        · exact .inr ⟨.inl hq.1, hq.2⟩
      · rw [enumL_snoc, hkl]; exact h2
      · have := (RdStep.setCell (M := fun _ => False) W4 ⟨Pl, 0, none⟩ (.int .i64 ((k : Int) + 1)) (fun h => h)).size
        exact Nat.le_trans hsz (Nat.le_trans h1.size this)
      · exact (Below.heap_setCell W4 ⟨Pl, 0, none⟩ _ B (by simp only; omega)).trans ((h1.block B (by omega) (.inr ⟨.inr (by omega), hfr B (by omega)⟩)).trans hyB)
      · rw [heap_setCell_same W4 Pl 0 _ _ _ hP4, List.length_append, hkl]
        rfl
    have stop : ∀ W4, RdStep (fun k => BackR Bx a k ∨ ((O k ∨ (B ≤ k ∧ k < Cb + 1)) ∧ ¬ FreeI st (y1, y2) k)) W2 W4 → Jx (enumL 0 pre ++ [(k, st)]) (fun k => O k ∨ (B ≤ k ∧ k < Cb + 1)) W4 →
        rdPost (fun k => BackR Cb (some ⟨g, 0, none⟩) k ∨ (O k ∧ ¬ FreeI st (y1, y2) k)) O (AllI J l B Pl (Cb + 1)) (AllX Jx B (Cb + 1)) (pre ++ [st]) W2 .ret { tmps := #[], defers := [] } W4 := by
      intro W4 h1 h2
      refine ⟨h1.mono ?_, rfl, _, h2⟩
      rintro q ((rfl | ⟨ad, had, rfl⟩) | hq)
      · exact .inr ⟨.inr (by omega), hfr _ (by omega)⟩
      · cases had; exact .inr ⟨.inr (by simp only; omega), hfr _ (by simp only; omega)⟩
      · exact .inr ⟨.inl hq.1, hq.2⟩
    have cell4 : ∀ W4, RdStep (fun k => BackR Bx a k ∨ ((O k ∨ (B ≤ k ∧ k < Cb + 1)) ∧ ¬ FreeI st (y1, y2) k)) W2 W4 → W4.cell? ⟨Pl, 0, none⟩ = some (.int .i64 k) ∧ W4.frozen? ⟨Pl, 0, none⟩ = false := by
      intro W4 h1
      have hP4 : W4.heap[Pl]? = some (.cells #[.int .i64 k] 3 (0, 0)) := (h1.block Pl (by omega) (.inr ⟨.inr (by omega), hfr Pl (by omega)⟩)).trans hPc
      exact ⟨by rw [cell_of_row W4 Pl 0 _ _ _ hP4]; rfl, frozen_of_row W4 Pl 0 _ _ hP4⟩
    have NEXT := Lib.hid next
    have STOP := Lib.hid stop
    have CELL := Lib.hid cell4
    rw [show idxV st (y1, y2) = #[.slice y1 len y2] by rw [idxV, hst]]
    clear next stop cell4 nP hfr hPc hyB hsz hO hj hE hR0 hitems hxs hst hkl a1 a2 a3 a4 hJ5
    gi_wp2
    refine ⟨trivial, ?_⟩
    gi_wp2_with fail
    refine ⟨rfl, hR.mono ?_⟩
    rintro e W4 ⟨bb, rfl, hrd, h1, h2⟩
    cases bb
    · have S4 := Lib.hid (STOP.out W4 hrd (h2 rfl))
      clear h1 h2 hrd hR hy cY cP
      gi_wp2_with fail
      exact S4.out
    · obtain ⟨c4', f4'⟩ := CELL.out W4 hrd
      have N4 := Lib.hid (NEXT.out W4 hrd (h1 rfl))
      clear h1 h2 hrd hR hy cY cP
      gi_wp2_with fail
      exact N4.out
theorem idx_iterF : ∀ (n : Nat), n ≤ 4 → ∀ (Bx b off cap : Nat) (zs : List Int), allR 1 1024 zs = true → zs.length = n → n ≤ cap → cap ≤ maxLen →
    IterOfF Try.prog 71 #[.pointer (some ⟨Bx, 0, none⟩)] (BackR Bx (some ⟨b, off, none⟩)) (BackC Bx (some ⟨b, off, none⟩) n cap zs) (idxN zs n) idxV IdxG FreeI := by
  intro n
  induction n with
  | zero =>
    intro _ Bx b off cap zs _ hl _ _
    obtain rfl := List.length_eq_zero_iff.1 hl
    exact idx_baseF Bx _ cap []
  | succ n ih =>
    intro h4 Bx b off cap zs hr hl hc hm
    refine idx_stepF n h4 Bx b off cap zs hr hl hc hm (fun Bx' => ?_)
    have := ih (by omega) Bx' b off cap (zs.take n) (allR_take hr n) (by rw [List.length_take]; omega) (by omega) hm
    rwa [idxN_take zs n n (Nat.le_refl _)] at this

theorem all_iterF (Bx : Nat) (a : Option Addr) (len cap : Nat) (zs : List Int) (hl : zs.length = len) :
    IterOfF Try.prog 68 #[.pointer (some ⟨Bx, 0, none⟩)] (BackR Bx a) (BackC Bx a len cap zs) (allL zs) allV AllG FreeA := by
  cases hr : rightS zs
  · exact allS_wrongF _ Bx a len cap zs hr
  · have h4 := (rightS_parts hr).2.1
    exact allS_rightF Bx a len cap zs hr (fun Bx' b off cap' h1 h2 => idx_iterF len (by omega) Bx' b off cap' zs (rightS_parts hr).2.2.1 hl h1 h2)
end Go.Proofs.Ytapelgjnnccfoaa

/-
  The items of package shape's All, one by one.
-/
namespace Go.Proofs.Ytapelgjnnccfoaa
set_option linter.unusedVariables false
set_option linter.unusedSimpArgs false

theorem enumL_split {α : Type} : ∀ (pre : List (Nat × α)) (j : Nat) (L : List α) (k : Nat) (x : α) (rest : List (Nat × α)), enumL j L = pre ++ (k, x) :: rest → k = j + pre.length ∧ L[pre.length]? = some x := by
  intro pre
  induction pre with
  | nil =>
    intro j L k x rest h
    cases L with
    | nil => simp [enumL] at h
    | cons a L => simp only [enumL, List.nil_append, List.cons.injEq, Prod.mk.injEq] at h; simp [h.1.1, h.1.2]
  | cons q pre ih =>
    intro j L k x rest h
    cases L with
    | nil => simp [enumL] at h
    | cons a L =>
      simp only [enumL, List.cons_append, List.cons.injEq] at h
      obtain ⟨h1, h2⟩ := ih (j + 1) L k x rest h.2
      exact ⟨by simp; omega, by simpa using h2⟩
theorem enumL_length {α : Type} : ∀ (L : List α) (j : Nat), (enumL j L).length = L.length := by
  intro L
  induction L with
  | nil => intro j; rfl
  | cons a L ih => intro j; simp [enumL, ih]
theorem allL_split {zs : List Int} (hr : rightS zs = true) {pre rest : List (Nat × List Int)} {k : Nat} {st : List Int} (h : allL zs = pre ++ (k, st) :: rest) : k = pre.length ∧ st = digs zs (pre.length : Int) ∧ ((pre.length : Int) < prodI zs) := by
  unfold allL at h
  rw [if_pos hr] at h
  obtain ⟨h1, h2⟩ := enumL_split pre 0 _ k st rest h
  rw [idxN_digs zs (rightS_parts hr).2.2.1 zs.length (Nat.le_refl _), List.take_of_length_le (Nat.le_refl _), List.getElem?_map] at h2
  obtain ⟨q, hq, rfl⟩ := Option.map_eq_some_iff.1 h2
  obtain ⟨hlt, hq2⟩ := List.getElem?_eq_some_iff.1 hq
  rw [List.getElem_range] at hq2
  subst hq2
  rw [List.length_range] at hlt
  exact ⟨by omega, rfl, by omega⟩
theorem allL_length {zs : List Int} (hr : rightS zs = true) : ((allL zs).length : Int) = prodI zs := by
  unfold allL
  rw [if_pos hr, enumL_length, idxN_digs zs (rightS_parts hr).2.2.1 zs.length (Nat.le_refl _), List.take_of_length_le (Nat.le_refl _), List.length_map, List.length_range]
  have := prodI_pos (rightS_parts hr).2.2.1
  omega

end Go.Proofs.Ytapelgjnnccfoaa

/-
  Regions that draw their order, within a round: walked as outside.
-/
namespace Go.Proofs.Ytapelgjnnccfoaa
open Go.RowKit
set_option linter.unusedVariables false
set_option linter.unusedSimpArgs false

/-- No operation is a defer statement. -/
def noDefer (ops : Array Oper) : Bool := ops.toList.all fun o => match o.op with | .defer _ => false | _ => true
theorem noDefer_at {ops : Array Oper} (h : noDefer ops = true) {i : Nat} {o : Oper} (ho : ops[i]? = some o) : ∀ c, o.op ≠ .defer c := by
  intro c hc
  unfold noDefer at h
  rw [List.all_eq_true] at h
  have := h o (by rw [← Array.getElem?_toList] at ho; exact List.mem_of_getElem? ho)
  rw [hc] at this
  simp at this
section
variable {P : Program} {md : Region.Mode} {ops : Array Oper} {Q : Exit → Act → World → Prop} {S : World → Prop}
theorem round_op {l n i : Nat} {K : Act → World → Prop} {a : Act} {w : World} (hd : noDefer ops = true) (hL : ¬ LetsOut Q) (h : wpOp P ops Q i K a w) : wpOpIn (Fence.wide.inRound l) n P ops Q i K a w := by
  unfold wpOp at h
  unfold wpOpIn
  cases ho : ops[i]? with
  | none => simpa only [ho] using h
  | some o =>
    simp only [ho] at h ⊢
    by_cases hw : Region.wanted o (yielded ops a.tmps) = true
    · rw [if_pos hw] at h ⊢
      rcases h with h | ⟨_, hl⟩
      · unfold Oper.wp at h
        unfold Oper.wpIn
        refine ⟨fun _ _ => trivial, ?_⟩
        rw [Oper.semAt_plain _ _ _ (noDefer_at hd ho)]
        generalize (execOp a.eval o).run P w = r at h ⊢
        cases r with
        | ok x w' =>
          have hdep : (Fence.wide.inRound l).depth.isSome = true → 1 ≤ n := fun hd => by simp [Fence.wide, Fence.inRound] at hd
          cases x
          case value => exact h
          case skip => exact h
          case defer => exact h
          case enter f args => exact ⟨hdep, CallsIn.mono (CallsIn.inRound l (callsIn_wide.2 h)) (fun e w'' he => by cases e <;> exact he)⟩
          case row row args => exact ⟨hdep, fun c cs _ => let ⟨v, w1, r, s⟩ := h c cs; ⟨v, w1, r, stepsIn_wide.2 s⟩⟩
          all_goals exact h.elim
        | halt x w' => cases x <;> simp only [Oper.upon, Oper.uponIn] at h ⊢ <;> exact h
      · exact absurd hl hL
    · rw [if_neg hw] at h ⊢
      exact ⟨fun _ _ => trivial, h⟩
theorem round_any {l n : Nat} (hd : noDefer ops = true) (hL : ¬ LetsOut Q) : ∀ (fuel : Nat) (listed : Array Bool) (a : Act) (w : World), wpAny P md ops Q fuel listed a w → wpAnyIn (Fence.wide.inRound l) n P md ops Q fuel listed a w
  | 0, _, _, _, h => h
  | fuel + 1, _, _, _, h => ⟨h.1, fun i hi => wpOpIn_mono (fun a' w' h' => round_any hd hL fuel _ a' w' h') (round_op hd hL (h.2 i hi))⟩
/-- A region within a round: from the world behind the draw, as outside. -/
theorem round_held {l n id : Nat} {a : Act} {w : World} (hm : P.follows .mixedOrders = true) (hd : noDefer ops = true) (hL : ¬ LetsOut Q) (hS : S w.drew)
    (h : S w.drew → wpAnyH P .any ops Q S ops.size (Array.replicate ops.size false) a w.drew) : (Code.region id ops true).wpIn (Fence.wide.inRound l) n P Q a w :=
  wpIn_region_any hm (round_any hd hL _ _ _ _ (wpAny_of_held _ _ _ _ (h hS)))
theorem cutP_shut {ι : Type} {H : ι → Prop} {f : ι → Act → Act} {w₀ : ι → World} {a : Act} : ¬ LetsOut (CutP H f w₀ a) := by
  rintro ⟨_, _, _, _, h, _⟩
  cases h
/-- One way out alone: cut behind the region. -/
theorem round_cut {l n id : Nat} {a : Act} {w : World} {K : Act → World → Prop} {Q' : Exit → Act → World → Prop} {ι : Type} (H : ι → Prop) (f : ι → Act → Act) (w₀ : ι → World) (S : World → Prop) (hm : P.follows .mixedOrders = true) (hd : noDefer ops = true) (hS : S w.drew)
    (h : S w.drew → wpAnyH P .any ops (CutP H f w₀ a) S ops.size (Array.replicate ops.size false) a w.drew) (hk : ∀ x, H x → K (f x a) (w₀ x)) : (Code.region id ops true).wpIn (Fence.wide.inRound l) n P (Exit.then K Q') a w :=
  region_cut2 H f w₀ (round_held hm hd cutP_shut hS h) hk
/-- The same, whatever stands behind. -/
theorem round_cutQ {l n id : Nat} {a : Act} {w : World} {ι : Type} (H : ι → Prop) (f : ι → Act → Act) (w₀ : ι → World) (S : World → Prop) (hm : P.follows .mixedOrders = true) (hd : noDefer ops = true) (hS : S w.drew)
    (h : S w.drew → wpAnyH P .any ops (CutP H f w₀ a) S ops.size (Array.replicate ops.size false) a w.drew) (hk : ∀ x, H x → Q .normal (f x a) (w₀ x)) : (Code.region id ops true).wpIn (Fence.wide.inRound l) n P Q a w :=
  wpIn_mono (round_held hm hd cutP_shut hS h) (by rintro e a' w' ⟨x, hx, rfl, rfl, rfl⟩; exact hk x hx)
end
end Go.Proofs.Ytapelgjnnccfoaa

/-
  The builtin append to a row of one's own: the row that comes back lies where the old one lay, or in a new block.
-/
namespace Go.Proofs.Ytapelgjnnccfoaa
open Go.RowKit
set_option linter.unusedVariables false
set_option linter.unusedSimpArgs false

theorem run_append_new {P : Program} (w : World) (base : Nat) (t ty e : TypeId) (i : TypeInfo) (z : Value) (size bytes : Nat) (ht : P.underlying t = some (.slice e)) (hi : P.info? e = some i) (hz : i.zero = some z)
    (hsize : i.size = size) (hby : i.bytes = bytes) (hzs : z.cells.size = size) (hsz : 0 < size)
    (v : Value) (n : Nat) (xs : List Value) (hown : w.ownsRow base e size v n xs)
    (ad : Addr) (m c : Nat) (news : List Value) (hl : news.length = m * size) (hnews : ∀ j u, news[j]? = some u → w.cell? (ad.add j) = some u) (h1 : ∀ u ∈ news, u.oneCell' = true)
    (h63 : n + m ≤ maxLen) (hbytes : (n + m) * bytes ≤ 140737488355328) (hbase : base ≤ w.heap.size) :
    ∃ v' w', (Builtin.append_ #[t, t] ty #[v, .slice (some ad) m c]).run P w = .ok v' w' ∧ w'.ownsRow base e size v' (n + m) (xs ++ news) ∧ w.grownBy w' v.ownBlock ∧ (∀ q, v'.ownBlock = some q → v.ownBlock = some q ∨ w.heap.size ≤ q) := by
  have hown0 := hown
  rcases hown.2 with ⟨rfl, rfl⟩ | ⟨g, cap, cur, rfl, hbg, hg, hnc, hcm, hcs, htk⟩
  · have hx : xs = [] := List.eq_nil_of_length_eq_zero (by have := hown.1; simpa using this)
    subst hx
    obtain ⟨v', w', hr, r1, r2, -⟩ := run_append_own (P := P) w w.heap.size t ty e i z size bytes ht hi hz hsize hby hzs hsz (.slice none 0 0) 0 [] (World.ownsRow_nil w _ e size) ad m c news hl hnews h1 h63 hbytes (Nat.le_refl _)
    exact ⟨v', w', hr, Joins.ownsRow_le r1 hbase, r2, fun q hq => .inr (r1.lt q hq).1⟩
  · by_cases hroom : n + m ≤ cap
    · obtain ⟨w', hr, r1, r2⟩ := run_append_fits (P := P) w base t ty e i size ht hi hsize g n cap xs hown0 ad m c news hl hnews h1 hroom
      exact ⟨_, w', hr, r1, r2, fun q hq => .inl hq⟩
    · have hxl : xs.length = n * size := hown.1
      have holds : ∀ j u, xs[j]? = some u → w.cell? ((⟨g, 0, none⟩ : Addr).add j) = some u := fun j u hj => hown0.cells rfl j u hj
      obtain ⟨v', w', hr, r1, r2⟩ := run_append_arg_grows (P := P) w t ty e i z size bytes ht hi hz hsize hby hzs hsz ⟨g, 0, none⟩ n cap xs hxl holds ad m c news hl hnews (by omega) h63 hbytes
      exact ⟨v', w', hr, Joins.ownsRow_le r1 hbase, ⟨r2.os, r2.tape, r2.output, r2.size, fun k hk _ => r2.block k hk (by intro e'; cases e')⟩, fun q hq => .inr (r1.lt q hq).1⟩

theorem wpListIn_append_new {F : Fence} {fn : Nat} {P : Program} (w : World) {ops : Array Oper} {rest : List Oper} {o : Oper} {a : Act} {Q : Exit → Act → World → Prop}
    (hg : o.guard = none) (s x : Operand) (t : TypeId) (hop : o.op = Op.call { callee := Callee.builtin Builtin.append, args := #[s, x], argTypes := #[t, t] })
    (base : Nat) (e : TypeId) (i : TypeInfo) (z : Value) (size bytes : Nat) (h1 : P.underlying t = some (.slice e)) (h2 : P.info? e = some i) (h3 : i.zero = some z) (h4 : i.size = size) (h5 : i.bytes = bytes) (h6 : z.cells.size = size) (h7 : 0 < size)
    (v : Value) (k : Nat) (xs : List Value) (hs : a.eval s = v) (hown : w.ownsRow base e size v k xs) (ad : Addr) (m c : Nat) (news : List Value) (hx : a.eval x = .slice (some ad) m c) (hn : news.length = m * size)
    (hc : ∀ j u, news[j]? = some u → w.cell? (ad.add j) = some u) (h1c : ∀ u ∈ news, u.oneCell' = true) (b1 : k + m ≤ maxLen) (b2 : (k + m) * bytes ≤ 140737488355328) (b3 : base ≤ w.heap.size)
    (hK : ∀ v' w', w'.ownsRow base e size v' (k + m) (xs ++ news) → w.grownBy w' v.ownBlock → (∀ q, v'.ownBlock = some q → v.ownBlock = some q ∨ w.heap.size ≤ q) → wpListIn F fn P ops Q rest (a.put o.dst v') w') :
    wpListIn F fn P ops Q (o :: rest) a w := by
  refine wpListIn_plain hg fun K hK' => ?_
  obtain ⟨v', w', hrun, r1, r2, r3⟩ := run_append_new (P := P) w base t o.type e i z size bytes h1 h2 h3 h4 h5 h6 h7 v k xs hown ad m c news hn hc h1c b1 b2 b3
  unfold Oper.wpIn
  refine ⟨?_, ?_⟩
  · simp [Oper.about, hop, resolve, Target.leads, Sem.run_pure]
  · rw [Oper.semAt_plain F _ _ (by rw [hop]; intro c hc'; cases hc')]
    simp [execOp, hop, resolve, invoke, builtin, hs, hx, hrun, Result.andThen]
    exact hK' _ _ (hK v' w' r1 r2 r3)
end Go.Proofs.Ytapelgjnnccfoaa

/-
  Layer 7 in mathematics: the state of six loops, one within another; how many products there are; a kernel of one cell.
-/
namespace Go.Proofs.Ytapelgjnnccfoaa
set_option linter.unusedVariables false
set_option linter.unusedSimpArgs false

/-- The products ahead of a place in six loops. -/
def PlanN.pre (p : PlanN) (o i j c t u : Nat) : List Tri := p.lO o ++ (p.lI o i ++ (p.lJ o i j ++ (p.lC o i j c ++ (p.lT o i j c t ++ p.lU o i j c t u))))
theorem PlanN.pre_start (p : PlanN) : p.pre 0 0 0 0 0 0 = [] := by simp [PlanN.pre, PlanN.lU_zero, PlanN.lT_zero, PlanN.lC_zero, PlanN.lJ_zero, PlanN.lI_zero, PlanN.lO_zero]
theorem PlanN.pre_u (p : PlanN) (o i j c t u : Nat) : p.pre o i j c t (u + 1) = p.pre o i j c t u ++ [p.tri o i j c t u] := by
  simp [PlanN.pre, PlanN.lU_succ, PlanN.tri]
theorem PlanN.pre_t (p : PlanN) (o i j c t : Nat) : p.pre o i j c t p.L = p.pre o i j c (t + 1) 0 := by
  simp [PlanN.pre, PlanN.lT_succ, PlanN.lU_zero]
theorem PlanN.pre_c (p : PlanN) (o i j c : Nat) : p.pre o i j c p.K 0 = p.pre o i j (c + 1) 0 0 := by
  simp [PlanN.pre, PlanN.lC_succ, PlanN.lT_zero, PlanN.lU_zero]
theorem PlanN.pre_j (p : PlanN) (o i j : Nat) : p.pre o i j p.C 0 0 = p.pre o i (j + 1) 0 0 0 := by
  simp [PlanN.pre, PlanN.lJ_succ, PlanN.lC_zero, PlanN.lT_zero, PlanN.lU_zero]
theorem PlanN.pre_i (p : PlanN) (o i : Nat) : p.pre o i p.n 0 0 0 = p.pre o (i + 1) 0 0 0 0 := by
  simp [PlanN.pre, PlanN.lI_succ, PlanN.lJ_zero, PlanN.lC_zero, PlanN.lT_zero, PlanN.lU_zero]
theorem PlanN.pre_o (p : PlanN) (o : Nat) : p.pre o p.m 0 0 0 0 = p.pre (o + 1) 0 0 0 0 0 := by
  simp [PlanN.pre, PlanN.lO_succ, PlanN.lI_zero, PlanN.lJ_zero, PlanN.lC_zero, PlanN.lT_zero, PlanN.lU_zero]
theorem PlanN.pre_end (p : PlanN) : p.pre p.O 0 0 0 0 0 = p.all := by
  simp [PlanN.pre, PlanN.all, PlanN.lI_zero, PlanN.lJ_zero, PlanN.lC_zero, PlanN.lT_zero, PlanN.lU_zero]

/-- The numbers that are added: to the answer, to what goes back to the kernel, to what goes back to what came in. -/
def goV (ws xs : List Int) (x : Tri) : Nat × Int := (x.1, mulF (ws.getD x.2.1 0) (xs.getD x.2.2 0))
def backV1 (gs xs : List Int) (x : Tri) : Nat × Int := (x.2.1, mulF (gs.getD x.1 0) (xs.getD x.2.2 0))
def backV2 (gs ws : List Int) (x : Tri) : Nat × Int := (x.2.2, mulF (gs.getD x.1 0) (ws.getD x.2.1 0))
/-- The cells that are under way. -/
def runP (N : Nat) (f : Tri → Nat × Int) (l : List Tri) : List Int := runL N (l.map f)
theorem runP_nil (N : Nat) (f : Tri → Nat × Int) : runP N f [] = List.replicate N 0 := rfl
theorem runP_snoc (N : Nat) (f : Tri → Nat × Int) (l : List Tri) (x : Tri) : runP N f (l ++ [x]) = addAt (runP N f l) (f x).1 (f x).2 := by
  simp only [runP, List.map_append, List.map_cons, List.map_nil, runL_snoc]
theorem runP_length (N : Nat) (f : Tri → Nat × Int) (l : List Tri) : (runP N f l).length = N := runL_length _ _
theorem runP_fits (N : Nat) (f : Tri → Nat × Int) (l : List Tri) : Fits (runP N f l) := runL_fits _ _
/-- The answer's cells, what goes back to the kernel, and to what came in. -/
def convGo (p : PlanN) (ws xs : List Int) : List Int := runP (p.O * p.m * p.n) (goV ws xs) p.all
def convW (p : PlanN) (N : Nat) (gs xs : List Int) : List Int := runP N (backV1 gs xs) p.all
def convX (p : PlanN) (N : Nat) (gs ws : List Int) : List Int := runP N (backV2 gs ws) p.all

/-- How many products: as many as the answer has cells, times the kernel's cells of one out. -/
theorem PlanN.count (p : PlanN) (h : 1 ≤ p.O) : p.all.length = (p.O * p.m * p.n) * (p.O * p.C * p.K * p.L) / p.O := by
  rw [PlanN.all_length]
  have e : (p.O * p.m * p.n) * (p.O * p.C * p.K * p.L) = (p.O * (p.m * (p.n * (p.C * (p.K * p.L))))) * p.O := by
    simp only [Nat.mul_assoc, Nat.mul_comm, Nat.mul_left_comm]
  rw [e, Nat.mul_div_cancel _ (by omega)]

/-- The numbers below m n, in m rows of n. -/
theorem partsL_grid {α : Type} (f : Nat → α) (m n : Nat) : partsL (fun i => (List.range n).map fun j => f (i * n + j)) m = (List.range (m * n)).map f := by
  induction m with
  | zero => simp [partsL_zero]
  | succ m ih =>
    rw [partsL_succ, ih, Nat.succ_mul, List.range_add, List.map_append, List.map_map]
    rfl
theorem partsL_ones {α : Type} (f : Nat → α) (k : Nat) : partsL (fun i => [f i]) k = (List.range k).map f := by
  induction k with
  | zero => simp [partsL_zero]
  | succ k ih => rw [partsL_succ, ih, List.range_succ, List.map_append]; rfl
theorem partsL_one {α : Type} (f : Nat → List α) : partsL f 1 = f 0 := by rw [partsL_succ, partsL_zero]; rfl
theorem partsL_congr {α : Type} {f g : Nat → List α} {k : Nat} (h : ∀ i, i < k → f i = g i) : partsL f k = partsL g k := by
  induction k with
  | zero => rw [partsL_zero, partsL_zero]
  | succ k ih => rw [partsL_succ, partsL_succ, ih (fun i hi => h i (by omega)), h k (by omega)]
theorem filter_range {k : Nat} (N : Nat) : (List.range N).filter (fun j => j == k) = if k < N then [k] else [] := by
  induction N with
  | zero => simp
  | succ N ih =>
    rw [List.range_succ, List.filter_append, ih]
    by_cases c : k < N
    · rw [if_pos c, if_pos (by omega)]
      have : (N == k) = false := beq_eq_false_iff_ne.2 (by omega)
      simp [this]
    · rw [if_neg c]
      by_cases d : N = k
      · subst d; rw [if_pos (by omega)]; simp
      · rw [if_neg (by omega)]
        have : (N == k) = false := beq_eq_false_iff_ne.2 d
        simp [this]
/-- A kernel of one cell: each product is one cell by itself. -/
theorem PlanN.all_one (H W : Nat) (dn rt : Nat) (hd : dn = 1 ∨ H = 1) (hr : rt = 1 ∨ W = 1) : (PlanN.mk 1 1 1 1 H W dn rt H W).all = (List.range (H * W)).map fun k => (k, 0, k) := by
  unfold PlanN.all PlanN.lO PlanN.lI PlanN.lJ PlanN.lC PlanN.lT PlanN.lU
  simp only [partsL_one, partsL_ones]
  rw [← partsL_grid]
  refine partsL_congr (fun i hi' => List.map_congr_left (fun j hj => ?_))
  have hj' := List.mem_range.1 hj
  have e1 : i * dn = i := by
    rcases hd with e | e
    · rw [e, Nat.mul_one]
    · rw [show i = 0 by omega, Nat.zero_mul]
  have e2 : j * rt = j := by
    rcases hr with e | e
    · rw [e, Nat.mul_one]
    · rw [show j = 0 by omega, Nat.zero_mul]
  simp [PlanN.a, PlanN.b, PlanN.d, e1, e2]
/-- Each place is added to once. -/
theorem runL_once (N : Nat) (v : Nat → Int) : runL N ((List.range N).map fun k => (k, v k)) = (List.range N).map fun k => sat (0 + v k) := by
  refine List.ext_getElem (by simp [runL_length]) (fun k h1 h2 => ?_)
  have hk : k < N := by rw [runL_length] at h1; exact h1
  have e := runL_get hk ((List.range N).map fun k => (k, v k))
  have ha : atL k ((List.range N).map fun k => (k, v k)) = [v k] := by
    unfold atL
    rw [List.filter_map, List.map_map]
    have : (List.range N).filter ((fun t : Nat × Int => t.1 == k) ∘ fun k => (k, v k)) = [k] := by
      show (List.range N).filter (fun j => j == k) = [k]
      rw [filter_range, if_pos hk]
    rw [this]; rfl
  rw [ha] at e
  simp only [List.getElem_map, List.getElem_range]
  simpa [List.getD, List.getElem?_eq_getElem h1, sumF] using e

/-- Of a list put together of parts one part alone may pass. -/
theorem partsL_filter {α : Type} {f : Nat → List α} {k : Nat} {q : α → Bool} {j0 : Nat} (h0 : j0 < k) (h : ∀ j, j < k → j ≠ j0 → ∀ x ∈ f j, q x = false) : (partsL f k).filter q = (f j0).filter q := by
  induction k with
  | zero => omega
  | succ k ih =>
    rw [partsL_succ, List.filter_append]
    by_cases c : j0 = k
    · subst c
      have : (partsL f j0).filter q = [] := by
        rw [List.filter_eq_nil_iff]
        intro x hx
        obtain ⟨j, hj, hx⟩ := partsL_mem.1 hx
        rw [h j (by omega) (by omega) x hx]
        simp
      rw [this, List.nil_append]
    · rw [ih (by omega) (fun j hj hne => h j (by omega) hne)]
      have : (f k).filter q = [] := by
        rw [List.filter_eq_nil_iff]
        intro x hx
        rw [h k (by omega) (fun e => c e.symm) x hx]
        simp
      rw [this, List.append_nil]
theorem lex_inj {n i i' j j' : Nat} (hj : j < n) (hj' : j' < n) (h : i * n + j = i' * n + j') : i = i' ∧ j = j' := by
  rcases Nat.lt_trichotomy i i' with c | c | c
  · have := lex_lt j' c hj; omega
  · subst c; omega
  · have := lex_lt j c hj'; omega
theorem PlanN.a_inj (p : PlanN) {o i j o' i' j' : Nat} (hi : i < p.m) (hj : j < p.n) (hi' : i' < p.m) (hj' : j' < p.n) (h : p.a o i j = p.a o' i' j') : o = o' ∧ i = i' ∧ j = j' := by
  obtain ⟨e1, e2⟩ := lex_inj hj hj' h
  obtain ⟨e3, e4⟩ := lex_inj hi hi' e1
  exact ⟨e3, e4, e2⟩
/-- The products of one cell of the answer stand together. -/
theorem PlanN.cell (p : PlanN) {o i j : Nat} (ho : o < p.O) (hi : i < p.m) (hj : j < p.n) : p.all.filter (fun x => x.1 == p.a o i j) = p.lC o i j p.C := by
  unfold PlanN.all PlanN.lO
  rw [partsL_filter ho]
  · unfold PlanN.lI
    rw [partsL_filter hi]
    · unfold PlanN.lJ
      rw [partsL_filter hj]
      · rw [List.filter_eq_self]
        intro x hx
        obtain ⟨c, t, u, -, -, -, rfl⟩ := PlanN.lC_mem hx
        exact beq_self_eq_true _
      · intro j' hj' hne x hx
        obtain ⟨c, t, u, -, -, -, rfl⟩ := PlanN.lC_mem hx
        exact beq_eq_false_iff_ne.2 (fun e => hne (p.a_inj hi hj' hi hj e).2.2)
    · intro i' hi' hne x hx
      obtain ⟨j', c, t, u, hj', -, -, -, rfl⟩ := PlanN.lJ_mem hx
      exact beq_eq_false_iff_ne.2 (fun e => hne (p.a_inj hi' hj' hi hj e).2.1)
  · intro o' ho' hne x hx
    obtain ⟨i', j', c, t, u, hi', hj', -, -, -, rfl⟩ := PlanN.lI_mem hx
    exact beq_eq_false_iff_ne.2 (fun e => hne (p.a_inj hi' hj' hi hj e).1)
theorem convGo_get (p : PlanN) (ws xs : List Int) {o i j : Nat} (ho : o < p.O) (hi : i < p.m) (hj : j < p.n) :
    (convGo p ws xs).getD (p.a o i j) 0 = sumF ((p.lC o i j p.C).map fun x => mulF (ws.getD x.2.1 0) (xs.getD x.2.2 0)) := by
  unfold convGo runP
  rw [runL_get (p.a_in ho hi hj)]
  unfold atL
  rw [List.filter_map, List.map_map]
  have : p.all.filter ((fun t : Nat × Int => t.1 == p.a o i j) ∘ goV ws xs) = p.lC o i j p.C := p.cell ho hi hj
  rw [this]
  rfl
theorem convW_get (p : PlanN) {N k : Nat} (gs xs : List Int) (hk : k < N) :
    (convW p N gs xs).getD k 0 = sumF ((p.all.filter fun x => x.2.1 == k).map fun x => mulF (gs.getD x.1 0) (xs.getD x.2.2 0)) := by
  unfold convW runP
  rw [runL_get hk]
  unfold atL
  rw [List.filter_map, List.map_map]
  rfl
theorem convX_get (p : PlanN) {N k : Nat} (gs ws : List Int) (hk : k < N) :
    (convX p N gs ws).getD k 0 = sumF ((p.all.filter fun x => x.2.2 == k).map fun x => mulF (gs.getD x.1 0) (ws.getD x.2.1 0)) := by
  unfold convX runP
  rw [runL_get hk]
  unfold atL
  rw [List.filter_map, List.map_map]
  rfl
end Go.Proofs.Ytapelgjnnccfoaa

/-
  Layer 7 in mathematics: the products as the program goes through them: kernels, windows, cells of a kernel.
-/
namespace Go.Proofs.Ytapelgjnnccfoaa
set_option linter.unusedVariables false
set_option linter.unusedSimpArgs false

/-- One product, by the numbers of the kernel, the window and the cell. -/
def tchX (S D : Nat → Nat) (nS nC k i c : Nat) : Tri := (k * nS + i, k * nC + c, S i + D c)
def tch3 (S D : Nat → Nat) (nS nC k i n : Nat) : List Tri := partsL (fun c => [tchX S D nS nC k i c]) n
def tch2 (S D : Nat → Nat) (nS nC k n : Nat) : List Tri := partsL (fun i => tch3 S D nS nC k i nC) n
def tch1 (S D : Nat → Nat) (nS nC n : Nat) : List Tri := partsL (fun k => tch2 S D nS nC k nS) n
/-- What has been handed over ahead of a product. -/
def tchP (S D : Nat → Nat) (nS nC k i c : Nat) : List Tri := tch1 S D nS nC k ++ (tch2 S D nS nC k i ++ tch3 S D nS nC k i c)
section
variable (S D : Nat → Nat) (nS nC : Nat)
theorem tchP_start : tchP S D nS nC 0 0 0 = [] := by simp [tchP, tch1, tch2, tch3, partsL_zero]
theorem tchP_c (k i c : Nat) : tchP S D nS nC k i (c + 1) = tchP S D nS nC k i c ++ [tchX S D nS nC k i c] := by simp [tchP, tch3, partsL_succ]
theorem tchP_i (k i : Nat) : tchP S D nS nC k i nC = tchP S D nS nC k (i + 1) 0 := by simp [tchP, tch2, tch3, partsL_succ, partsL_zero]
theorem tchP_k (k : Nat) : tchP S D nS nC k nS 0 = tchP S D nS nC (k + 1) 0 0 := by simp [tchP, tch1, tch2, tch3, partsL_succ, partsL_zero]
theorem tchP_end (k : Nat) : tchP S D nS nC k 0 0 = tch1 S D nS nC k := by simp [tchP, tch2, tch3, partsL_zero]
theorem partsL_split {α : Type} (f : Nat → List α) {j n : Nat} (h : j < n) : ∃ r, partsL f n = partsL f j ++ (f j ++ r) := by
  induction n with
  | zero => omega
  | succ n ih =>
    rw [partsL_succ]
    by_cases c : j = n
    · subst c; exact ⟨[], by simp⟩
    · obtain ⟨r, hr⟩ := ih (by omega)
      exact ⟨r ++ f n, by rw [hr]; simp⟩
theorem tchP_split {O k i c : Nat} (hk : k < O) (hi : i < nS) (hc : c < nC) : ∃ r, tch1 S D nS nC O = tchP S D nS nC k i c ++ tchX S D nS nC k i c :: r := by
  obtain ⟨r1, h1⟩ := partsL_split (fun k => tch2 S D nS nC k nS) hk
  obtain ⟨r2, h2⟩ := partsL_split (fun i => tch3 S D nS nC k i nC) hi
  obtain ⟨r3, h3⟩ := partsL_split (fun c => [tchX S D nS nC k i c]) hc
  refine ⟨r3 ++ (r2 ++ r1), ?_⟩
  have h1' : tch1 S D nS nC O = tch1 S D nS nC k ++ (tch2 S D nS nC k nS ++ r1) := h1
  have h2' : tch2 S D nS nC k nS = tch2 S D nS nC k i ++ (tch3 S D nS nC k i nC ++ r2) := h2
  have h3' : tch3 S D nS nC k i nC = tch3 S D nS nC k i c ++ ([tchX S D nS nC k i c] ++ r3) := h3
  rw [h1', h2', h3']
  simp [tchP]
end
theorem partsL_mul {α : Type} (f : Nat → List α) (m n : Nat) : partsL f (m * n) = partsL (fun i => partsL (fun j => f (i * n + j)) n) m := by
  induction m with
  | zero => simp [partsL_zero]
  | succ m ih =>
    rw [partsL_succ, ← ih, Nat.succ_mul]
    clear ih
    induction n with
    | zero => simp [partsL_zero]
    | succ n ih2 =>
      generalize m * (n + 1) = q
      have : ∀ k, partsL f (q + k) = partsL f q ++ partsL (fun j => f (q + j)) k := by
        intro k
        induction k with
        | zero => simp [partsL_zero]
        | succ k ih => rw [show q + (k + 1) = (q + k) + 1 by omega, partsL_succ, ih, partsL_succ, List.append_assoc]
      exact this _
/-- All products, in their order. -/
theorem tch_all (p : PlanN) (S D : Nat → Nat) (hS : ∀ i j, i < p.m → j < p.n → S (i * p.n + j) = (i * p.dn) * p.W + j * p.rt) (hD : ∀ c t u, c < p.C → t < p.K → u < p.L → D ((c * p.K + t) * p.L + u) = (c * p.H + t) * p.W + u) :
    tch1 S D (p.m * p.n) (p.C * p.K * p.L) p.O = p.all := by
  unfold tch1 PlanN.all PlanN.lO
  refine partsL_congr (fun o ho => ?_)
  unfold tch2 PlanN.lI
  rw [partsL_mul]
  refine partsL_congr (fun i hi => ?_)
  unfold PlanN.lJ
  refine partsL_congr (fun j hj => ?_)
  unfold tch3 PlanN.lC
  rw [partsL_mul, partsL_mul]
  refine partsL_congr (fun c hc => ?_)
  unfold PlanN.lT
  refine partsL_congr (fun t ht => ?_)
  unfold PlanN.lU
  refine partsL_congr (fun u hu => ?_)
  unfold tchX PlanN.a PlanN.b PlanN.d
  rw [hS i j hi hj, hD c t u hc ht hu]
  have e1 : o * (p.m * p.n) + (i * p.n + j) = (o * p.m + i) * p.n + j := by rw [Nat.add_mul, Nat.mul_assoc, Nat.add_assoc]
  have e2 : o * (p.C * p.K * p.L) + ((c * p.K + t) * p.L + u) = ((o * p.C + c) * p.K + t) * p.L + u := by
    simp only [Nat.add_mul, Nat.mul_assoc, Nat.add_assoc]
  have e3 : i * p.dn * p.W + j * p.rt + ((c * p.H + t) * p.W + u) = (c * p.H + i * p.dn + t) * p.W + j * p.rt + u := by
    simp only [Nat.add_mul]
    omega
  rw [e1, e2, e3]

/-- The number of a place whose indices are these times a step. -/
def placeL (xs zs : List Int) (s : Int) (k : Nat) : Int := placeN xs ((digs zs (k : Int)).map (· * s))
theorem numP_two (a b i j : Int) : numP ([a, b].zip [i, j]) = i * b + j := by simp [numP]
theorem numP_three (a b c i j k : Int) : numP ([a, b, c].zip [i, j, k]) = (i * b + j) * c + k := by simp [numP]
theorem place_two {a b i j : Int} (h : rightS [a, b] = true) (hi : 0 ≤ i ∧ i < a) (hj : 0 ≤ j ∧ j < b) : placeN [a, b] [i, j] = i * b + j := by
  have : atOk [a, b] [i, j] = true := by simp [atOk, inB, hi, hj]
  unfold placeN
  rw [if_pos ⟨h, this⟩, numP_two]
theorem place_three {a b c i j k : Int} (h : rightS [a, b, c] = true) (hi : 0 ≤ i ∧ i < a) (hj : 0 ≤ j ∧ j < b) (hk : 0 ≤ k ∧ k < c) : placeN [a, b, c] [i, j, k] = (i * b + j) * c + k := by
  have : atOk [a, b, c] [i, j, k] = true := by simp [atOk, inB, hi, hj, hk]
  unfold placeN
  rw [if_pos ⟨h, this⟩, numP_three]
theorem digs_two (a b : Int) (hb : 1 ≤ b) {i j : Int} (hi : 0 ≤ i ∧ i < a) (hj : 0 ≤ j ∧ j < b) : digs [a, b] (i * b + j) = [i, j] := by
  have e1 : (i * b + j) / b = i := by rw [Int.add_comm, Int.add_mul_ediv_right _ _ (by omega), Int.ediv_eq_zero_of_lt hj.1 hj.2]; omega
  have e2 : (i * b + j) % b = j := by rw [Int.add_comm, Int.add_mul_emod_self_right, Int.emod_eq_of_lt hj.1 hj.2]
  simp only [digs, prodI, List.foldl, Int.one_mul, Int.ediv_one]
  rw [e1, e2, Int.emod_eq_of_lt hi.1 hi.2]
theorem digs_three (a b c : Int) (hb : 1 ≤ b) (hc : 1 ≤ c) {i j k : Int} (hi : 0 ≤ i ∧ i < a) (hj : 0 ≤ j ∧ j < b) (hk : 0 ≤ k ∧ k < c) : digs [a, b, c] ((i * b + j) * c + k) = [i, j, k] := by
  have e1 : ((i * b + j) * c + k) / c = i * b + j := by rw [Int.add_comm, Int.add_mul_ediv_right _ _ (by omega), Int.ediv_eq_zero_of_lt hk.1 hk.2]; omega
  have e2 : ((i * b + j) * c + k) % c = k := by rw [Int.add_comm, Int.add_mul_emod_self_right, Int.emod_eq_of_lt hk.1 hk.2]
  have e3 : (i * b + j) / b = i := by rw [Int.add_comm, Int.add_mul_ediv_right _ _ (by omega), Int.ediv_eq_zero_of_lt hj.1 hj.2]; omega
  have e4 : (i * b + j) % b = j := by rw [Int.add_comm, Int.add_mul_emod_self_right, Int.emod_eq_of_lt hj.1 hj.2]
  have e5 : ((i * b + j) * c + k) / (b * c) = i := by rw [Int.mul_comm b c, ← Int.ediv_ediv_of_nonneg (by omega), e1, e3]
  simp only [digs, prodI, List.foldl, Int.one_mul, Int.ediv_one]
  rw [e5, e1, e2, e4, Int.emod_eq_of_lt hi.1 hi.2]

/-- The shape of one channel of the answer. -/
def chanS (w x : List Int) (s : Int) : List Int := (outS w x s).set 0 1
set_option maxHeartbeats 1000000 in
theorem starts_at {w x : List Int} {s : Int} (h : toldE w x s = 0) {i j : Nat} (hi : i < (planOf w x s).m) (hj : j < (planOf w x s).n) :
    placeL x (chanS w x s) s (i * (planOf w x s).n + j) = ((i * (planOf w x s).dn * (planOf w x s).W + j * (planOf w x s).rt : Nat) : Int) := by
  have F := plan_facts h
  obtain ⟨h1, h2, h3⟩ := told_parts h
  have hx := (formOk_parts h1).2.1
  have hok := F.ok
  have hsm := F.small
  have hps := F.pos
  have ho := F.out
  rcases form_cases h1 with ⟨o, c, l, n, rfl, rfl⟩ | ⟨o, c, k, l, hh, n, rfl, rfl⟩
  · have w1 : winE n l s = 0 := by
      have : decide (winE n l s = 0) = true := h2
      exact of_decide_eq_true this
    obtain ⟨⟨n1, n2⟩, ⟨l1, l2⟩, ⟨s1, s2⟩, ln⟩ := winE_ok w1
    obtain ⟨N, rfl⟩ := nat_of (z := n) (by omega)
    obtain ⟨S, rfl⟩ := nat_of (z := s) (by omega)
    have ax := (rightS_parts hx).2.2.1
    have c1 := allR_getD ax 0 (by simp)
    simp at c1
    have hr := hok.right j hj
    obtain ⟨m, hm⟩ : ∃ m, winN N l S = m := ⟨_, rfl⟩
    have hmb := winN_bounds N l S
    rw [hm] at hmb
    have ep : planOf [o, c, l] [c, (N : Int)] S = ⟨o.toNat, c.toNat, 1, l.toNat, 1, N, 1, S, 1, m.toNat⟩ := by simp only [planOf, hm, Int.toNat_natCast]
    rw [ep] at hi hj hr hps ⊢
    simp only at hi hj hr hps ⊢
    obtain rfl : i = 0 := by omega
    have ed : digs (chanS [o, c, l] [c, (N : Int)] S) ((0 * m.toNat + j : Nat) : Int) = [0, (j : Int)] := by
      have e0 : chanS [o, c, l] [c, (N : Int)] S = [1, m] := by simp [chanS, outS, hm]
      rw [e0]
      have := digs_two 1 m (by omega) (i := 0) (j := j) (by omega) (by omega)
      simpa using this
    have hjs : (j : Int) * (S : Int) = ((j * S : Nat) : Int) := by simp
    unfold placeL
    rw [ed]
    simp only [List.map_cons, List.map_nil, Int.zero_mul]
    rw [place_two hx (by omega) (by rw [hjs]; omega)]
    simp
  · have w2 : (decide (winE hh k s = 0) && decide (winE n l s = 0)) = true := h2
    rw [Bool.and_eq_true] at w2
    have w0 : winE hh k s = 0 := of_decide_eq_true w2.1
    have w1 : winE n l s = 0 := of_decide_eq_true w2.2
    obtain ⟨⟨g1, g2⟩, ⟨k1, k2⟩, -, kh⟩ := winE_ok w0
    obtain ⟨⟨n1, n2⟩, ⟨l1, l2⟩, ⟨s1, s2⟩, ln⟩ := winE_ok w1
    obtain ⟨N, rfl⟩ := nat_of (z := n) (by omega)
    obtain ⟨H, rfl⟩ := nat_of (z := hh) (by omega)
    obtain ⟨S, rfl⟩ := nat_of (z := s) (by omega)
    have ax := (rightS_parts hx).2.2.1
    have c1 := allR_getD ax 0 (by simp)
    simp at c1
    have hr := hok.right j hj
    have hd := hok.down i hi
    obtain ⟨m, hm⟩ : ∃ m, winN N l S = m := ⟨_, rfl⟩
    have hmb := winN_bounds N l S
    rw [hm] at hmb
    obtain ⟨q, hq⟩ : ∃ q, winN H k S = q := ⟨_, rfl⟩
    have hqb := winN_bounds H k S
    rw [hq] at hqb
    have ep : planOf [o, c, k, l] [c, (H : Int), (N : Int)] S = ⟨o.toNat, c.toNat, k.toNat, l.toNat, H, N, S, S, q.toNat, m.toNat⟩ := by simp only [planOf, hm, hq, Int.toNat_natCast]
    rw [ep] at hi hj hr hd hps ⊢
    simp only at hi hj hr hd hps ⊢
    have ed : digs (chanS [o, c, k, l] [c, (H : Int), (N : Int)] S) ((i * m.toNat + j : Nat) : Int) = [0, (i : Int), (j : Int)] := by
      have e0 : chanS [o, c, k, l] [c, (H : Int), (N : Int)] S = [1, q, m] := by simp [chanS, outS, hm, hq]
      rw [e0]
      have := digs_three 1 q m (by omega) (by omega) (i := 0) (j := i) (k := j) (by omega) (by omega) (by omega)
      rw [Int.zero_mul, Int.zero_add] at this
      rw [← this]
      congr 1
      rw [Int.natCast_add, Int.natCast_mul, Int.toNat_of_nonneg (by omega)]
    have his : (i : Int) * (S : Int) = ((i * S : Nat) : Int) := by simp
    have hjs : (j : Int) * (S : Int) = ((j * S : Nat) : Int) := by simp
    unfold placeL
    rw [ed]
    simp only [List.map_cons, List.map_nil, Int.zero_mul]
    rw [place_three hx (by omega) (by rw [his]; omega) (by rw [hjs]; omega)]
    simp
set_option maxHeartbeats 1000000 in
theorem offs_at {w x : List Int} {s : Int} (h : toldE w x s = 0) {c t u : Nat} (hc : c < (planOf w x s).C) (ht : t < (planOf w x s).K) (hu : u < (planOf w x s).L) :
    placeL x (w.drop 1) 1 ((c * (planOf w x s).K + t) * (planOf w x s).L + u) = (((c * (planOf w x s).H + t) * (planOf w x s).W + u : Nat) : Int) := by
  have F := plan_facts h
  obtain ⟨h1, h2, h3⟩ := told_parts h
  have hx := (formOk_parts h1).2.1
  have hft := F.fits
  have hps := F.pos
  rcases form_cases h1 with ⟨o, c', l, n, rfl, rfl⟩ | ⟨o, c', k, l, hh, n, rfl, rfl⟩
  · have w1 : winE n l s = 0 := by
      have : decide (winE n l s = 0) = true := h2
      exact of_decide_eq_true this
    obtain ⟨⟨n1, n2⟩, ⟨l1, l2⟩, ⟨s1, s2⟩, ln⟩ := winE_ok w1
    have ax := (rightS_parts hx).2.2.1
    have c1 := allR_getD ax 0 (by simp)
    simp at c1
    obtain ⟨N, rfl⟩ := nat_of (z := n) (by omega)
    obtain ⟨L, rfl⟩ := nat_of (z := l) (by omega)
    obtain ⟨C, rfl⟩ := nat_of (z := c') (by omega)
    have ep : planOf [o, (C : Int), (L : Int)] [(C : Int), (N : Int)] s = ⟨o.toNat, C, 1, L, 1, N, 1, s.toNat, 1, (winN N L s).toNat⟩ := by simp only [planOf, Int.toNat_natCast]
    rw [ep] at hc ht hu hft hps ⊢
    simp only at hc ht hu hft hps ⊢
    obtain rfl : t = 0 := by omega
    have ed : digs ([o, (C : Int), (L : Int)].drop 1) (((c * 1 + 0) * L + u : Nat) : Int) = [(c : Int), (u : Int)] := by
      have := digs_two (C : Int) (L : Int) (by omega) (i := c) (j := u) (by omega) (by omega)
      simpa using this
    unfold placeL
    rw [ed]
    simp only [List.map_cons, List.map_nil, Int.mul_one]
    rw [place_two hx (by omega) (by omega)]
    simp
  · have w2 : (decide (winE hh k s = 0) && decide (winE n l s = 0)) = true := h2
    rw [Bool.and_eq_true] at w2
    have w0 : winE hh k s = 0 := of_decide_eq_true w2.1
    have w1 : winE n l s = 0 := of_decide_eq_true w2.2
    obtain ⟨⟨g1, g2⟩, ⟨k1, k2⟩, -, kh⟩ := winE_ok w0
    obtain ⟨⟨n1, n2⟩, ⟨l1, l2⟩, ⟨s1, s2⟩, ln⟩ := winE_ok w1
    have ax := (rightS_parts hx).2.2.1
    have c1 := allR_getD ax 0 (by simp)
    simp at c1
    obtain ⟨N, rfl⟩ := nat_of (z := n) (by omega)
    obtain ⟨L, rfl⟩ := nat_of (z := l) (by omega)
    obtain ⟨C, rfl⟩ := nat_of (z := c') (by omega)
    obtain ⟨H, rfl⟩ := nat_of (z := hh) (by omega)
    obtain ⟨K, rfl⟩ := nat_of (z := k) (by omega)
    have ep : planOf [o, (C : Int), (K : Int), (L : Int)] [(C : Int), (H : Int), (N : Int)] s = ⟨o.toNat, C, K, L, H, N, s.toNat, s.toNat, (winN H K s).toNat, (winN N L s).toNat⟩ := by simp only [planOf, Int.toNat_natCast]
    rw [ep] at hc ht hu hft hps ⊢
    simp only at hc ht hu hft hps ⊢
    have ed : digs ([o, (C : Int), (K : Int), (L : Int)].drop 1) (((c * K + t) * L + u : Nat) : Int) = [(c : Int), (t : Int), (u : Int)] := by
      have := digs_three (C : Int) (K : Int) (L : Int) (by omega) (by omega) (i := c) (j := t) (k := u) (by omega) (by omega) (by omega)
      simpa using this
    unfold placeL
    rw [ed]
    simp only [List.map_cons, List.map_nil, Int.mul_one]
    rw [place_three hx (by omega) (by omega) (by omega)]
    simp
end Go.Proofs.Ytapelgjnnccfoaa

