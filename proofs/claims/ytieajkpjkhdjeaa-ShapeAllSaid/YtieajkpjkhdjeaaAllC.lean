/-
  Package shape's All: the contract of its closure over a valid shape.
-/
import Derived.Test.YtieajkpjkhdjeaaAllW
namespace Go.Proofs.Ytieajkpjkhdjeaa
open Go.RowKit Go.Shelf
attribute [local go_sem] Oper.semAt_some
set_option linter.unusedVariables false
set_option linter.unusedSimpArgs false

theorem idxN_size {zs : List Int} (h : rightS zs = true) : (idxN zs zs.length).length ≤ 65536 := by
  rw [idxN_digs zs (rightS_parts h).2.2.1 zs.length (Nat.le_refl _), List.length_map, List.length_range, List.take_of_length_le (Nat.le_refl _)]
  have := (rightS_parts h).2.2.2
  omega

set_option maxRecDepth 100000 in
set_option maxHeartbeats 4000000 in
theorem allS_right (Bx : Nat) (a : Option Addr) (len cap : Nat) (zs : List Int) (hr : rightS zs = true)
    (IDX : ∀ Bx' b off cap', len ≤ cap' → cap' ≤ maxLen → IterOf Try.prog 41 #[.pointer (some ⟨Bx', 0, none⟩)] (BackR Bx' (some ⟨b, off, none⟩)) (BackC Bx' (some ⟨b, off, none⟩) len cap' zs) (idxN zs len) idxV IdxE) :
    IterOf Try.prog 38 #[.pointer (some ⟨Bx, 0, none⟩)] (BackR Bx a) (BackC Bx a len cap zs) (allL zs) allV AllE := by
  intro l J Jx sJ sJx hY0 W hC h0
  have hlen : zs.length = len := hC.2.1
  have hx : allL zs = enumL 0 (idxN zs len) := by unfold allL; rw [if_pos hr, hlen]
  rw [hx] at hY0 ⊢
  have hY := Lib.hid hY0
  clear hY0 hx
  have hl1 : 1 ≤ len := by have := (rightS_parts hr).1; omega
  have hl4 : len ≤ 4 := by have := (rightS_parts hr).2.1; omega
  have hn := idxN_size hr
  rw [hlen] at hn
  obtain ⟨B, hB⟩ : ∃ B, W.heap.size = B := ⟨_, rfl⟩
  have z1 : Below W.heap.size W (W.alloc (.cells #[.func (.yield l) #[] #[]] 60)) := (Below.refl _ _).alloc (Nat.le_refl _) _
  have k1 := cell_later z1 hC.1
  have R := rightM_any a len cap zs _ (hC.2.kept z1)
  rw [hr] at R
  have R1 := Lib.hid R
  have Z1 := Lib.hid z1
  have HC := Lib.hid hC
  have H0 := Lib.hid h0
  have HB := Lib.hid hB
  have HN := Lib.hid hn
  clear R hC h0 z1 hB hn hlen
  refine (callsIn_wide (n := 1)).1 ?_
  refine callsIn_of_wp_marks Try.func38 rfl trivial ?_ rfl
  simp only [Try.ntmps38, List.size_toArray, List.length_cons, List.length_nil, Nat.reduceAdd, Nat.reduceSub, Array.replicate_succ, Array.replicate_zero, List.push_toArray, List.append_toArray, List.nil_append, List.cons_append]
  refine wpIn_wide.2 ?_
  go_wp2_with fail
  refine R1.out.mono ?_
  rintro e w2 ⟨rfl, hb2⟩
  have z2 : Below W.heap.size W w2 := Z1.out.trans (hb2.mono Z1.out.size)
  have z3 : Below W.heap.size W (w2.alloc (.cells #[.int .i64 0] 3)) := z2.alloc z2.size _
  have k3 := cell_later z3 HC.out.1
  have CP := Lib.hid (copy_any a len cap zs _ (HC.out.2.kept z3) (by omega))
  have hB2 : w2.heap[B]? = some (.cells #[.func (.yield l) #[] #[]] 60 (0, 0)) := by
    rw [← HB.out]; exact (hb2.block _ (by simp)).trans (World.alloc_heap_new W _)
  have HB2 := Lib.hid hB2
  have Z2 := Lib.hid z2
  clear z2 z3 hB2 hb2 k1
  go_wp2_with fail
  refine CP.out.mono ?_
  rintro e w4 ⟨A, c4, rfl, ho, hb4⟩
  obtain ⟨g, c5, hv⟩ := Joins.ownsRow_form ho (by omega)
  simp only [Value.slice.injEq] at hv
  obtain ⟨rfl, -, rfl⟩ := hv
  clear k3
  have Z3 := Lib.hid (show Below W.heap.size W w4 from (Z2.out.alloc Z2.out.size (.cells #[.int .i64 0] 3)).trans (hb4.mono (Nat.le_trans Z2.out.size (by simp))))
  have HP := Lib.hid (show w4.heap[w2.heap.size]? = some (.cells #[.int .i64 0] 3 (0, 0)) from (hb4.block _ (by simp)).trans (World.alloc_heap_new w2 _))
  have HB4 := Lib.hid (show w4.heap[B]? = some (.cells #[.func (.yield l) #[] #[]] 60 (0, 0)) from
    (hb4.block B (by have := (Array.getElem?_eq_some_iff.1 HB2.out).1; simp; omega)).trans ((Below.heap_alloc w2 _ B (Array.getElem?_eq_some_iff.1 HB2.out).1).trans HB2.out))
  have HG := Lib.hid (And.intro (row_ints ho (by omega) HC.out.2.2.2.1) (And.intro (ho.lt g rfl).1 (And.intro (ho.lt g rfl).2 (show len ≤ c4 ∧ c4 ≤ maxLen from by
    rcases ho.2 with ⟨h, _⟩ | ⟨g', cap', cur, h, _, _, h1, h2, _⟩
    · cases h
    · cases h; exact ⟨h1, h2⟩))))
  have HS := Lib.hid (show w2.heap.size < w4.heap.size from (Array.getElem?_eq_some_iff.1 HP.out).1)
  clear ho hb4
  go_wp2_with fail
  refine (indices_any _ _ _ _).mono ?_
  rintro e w' ⟨rfl, rfl⟩
  obtain ⟨W5, hW5⟩ : ∃ W5, w4.alloc (.cells #[.slice (some ⟨g, 0, none⟩) len c4] 23) = W5 := ⟨_, rfl⟩
  obtain ⟨Cb, hCb⟩ : ∃ Cb, w4.heap.size = Cb := ⟨_, rfl⟩
  obtain ⟨Pl, hPl⟩ : ∃ Pl, w2.heap.size = Pl := ⟨_, rfl⟩
  have z5 : Below w4.heap.size w4 W5 := by rw [← hW5]; exact (Below.refl _ _).alloc (Nat.le_refl _) _
  have s5 : W5.heap.size = Cb + 1 := by rw [← hW5, ← hCb]; simp
  have a1 : W5.heap[B]? = some (.cells #[.func (.yield l) #[] #[]] 60 (0, 0)) := (z5.block B (Array.getElem?_eq_some_iff.1 HB4.out).1).trans HB4.out
  have a2 : W5.heap[Pl]? = some (.cells #[.int .i64 0] 3 (0, 0)) := by rw [← hPl]; exact (z5.block _ (Array.getElem?_eq_some_iff.1 HP.out).1).trans HP.out
  have a3 : W5.cell? ⟨Cb, 0, none⟩ = some (.slice (some ⟨g, 0, none⟩) len c4) := by rw [← hW5, World.cell?_alloc_at _ _ _ _ (by simp [hCb])]; rfl
  have a4 : IntsAt W5 (some ⟨g, 0, none⟩) len zs := HG.out.1.kept z5
  have b1 : B < Cb := by rw [← hCb]; exact (Array.getElem?_eq_some_iff.1 HB4.out).1
  have b2 : Pl < Cb := by rw [← hCb, ← hPl]; exact HS.out
  have b3 : g < Cb := by rw [← hCb]; exact HG.out.2.2.1
  have b4 : B < Pl := by rw [← hPl]; exact (Array.getElem?_eq_some_iff.1 HB2.out).1
  have b5 : Pl < g := by have := HG.out.2.1; simp at this; omega
  have hJ5 : J [] (fun k => False ∨ (B ≤ k ∧ k < Cb + 1)) W5 := by
    have z6 : Below W.heap.size W W5 := Z3.out.trans (z5.mono Z3.out.size)
    refine sJ [] _ _ _ _ H0.out ⟨z6.os, z6.tape, z6.output, z6.size, fun _ h => h.elim, fun k hk => ?_, fun k hk => ?_, fun k hk _ => z6.block k hk⟩
    · rcases hk with h | h
      · exact h.elim
      · exact .inr (by rw [HB.out]; exact h.1)
    · rcases hk with h | h
      · exact h.elim
      · exact .inr (by rw [s5]; exact h.2)
  rw [hW5]
  simp only [hCb, hPl, HB.out]
  clear hW5 z5
  go_wp2_with fail
  refine (wpIn_wide (n := 1)).1 ?_
  refine range_law (gf := 41) (lb := #[.pointer (some ⟨Cb, 0, none⟩)]) rfl (enters_of Try.func41 (by kernel_rfl) rfl) (IDX Cb g 0 c4 HG.out.2.2.2.1 HG.out.2.2.2.2) (fun _ _ => rfl) ?hR
    (fun st y O W D l o o' h1 h2 h3 => h1.keep D l o o' h2 h3) (fun W' hb' => ⟨cell_later hb' a3, a4.kept hb'⟩)
    (AllI J l B Pl (Cb + 1)) (AllX Jx B (Cb + 1)) (AllI.stable sJ l B Pl (Cb + 1) (by omega) (by omega)) (AllX.stable sJx B (Cb + 1))
    ⟨hJ5, fun _ h => h.elim, by omega, a1, a2⟩ ?round ?done ?stop
  case hR =>
    rintro k (rfl | ⟨ad, had, rfl⟩)
    · omega
    · cases had; simp only; omega
  case stop =>
    rintro D O c pre W' hD hO hdef ⟨rfl, p, hx⟩
    have fin : ∃ pre O, Jx pre O (W'.putObj D (.deferred none)) := ⟨p, _, sJx _ _ _ _ _ hx (ItStep.putObj W' D _ (.inl hO))⟩
    have F := Lib.hid fin
    have HD := Lib.hid hdef
    clear fin hx hdef
    refine wpIn_wide.2 ?_
    go_wp2_with fail
    exact leaves_mark HD.out ⟨_, results_none rfl _ _ _, ⟨⟨_, rfl⟩, .inr F.out⟩⟩
  case done =>
    rintro D O W' hD hO hdef ⟨hj, -⟩
    have fin : ∃ O, J (enumL 0 (idxN zs len)) O (W'.putObj D (.deferred none)) := ⟨_, sJ _ _ _ _ _ hj (ItStep.putObj W' D _ (.inl hO))⟩
    have F := Lib.hid fin
    have HD := Lib.hid hdef
    clear fin hj hdef
    go_wp2_with fail
    exact leaves_mark HD.out ⟨_, results_none rfl _ _ _, ⟨⟨_, rfl⟩, .inl F.out⟩⟩
  case round =>
    rintro l' pre st ⟨y1, y2⟩ rest O Wa W2 hxs ⟨hj, hO, hsz, hyB, hPc⟩ hE
    have hst : st.length = len := idxN_len zs len st (by rw [hxs]; simp)
    have hk : pre.length < 65536 := by have := HN.out; rw [hxs] at this; simp at this; omega
    obtain ⟨k, hkl⟩ : ∃ k, pre.length = k := ⟨_, rfl⟩
    have hitems : enumL 0 (idxN zs len) = enumL 0 pre ++ (k, st) :: enumL (k + 1) rest := by rw [hxs, enumL_append]; simp [enumL, hkl]
    obtain ⟨fn, tmps, assign, body, hy, hR0⟩ := yield_any 0 (hY.out _ (k, st) (y1, y2) _ _ W2 hitems hj (hE.mono (fun k h => .inl h)))
    rw [show allV (k, st) (y1, y2) = #[.int .i64 k, .slice y1 len y2] by simp only [allV]; rw [hst]] at hy
    have hR : RoundIn (Fence.wide.inRound l') 0 Try.prog l fn tmps assign body W2 (fun e W' => ∃ bb : Bool, e = .returned (.bool bb) ∧ RdStep (fun k => BackR Bx a k ∨ (O k ∨ (B ≤ k ∧ k < Cb + 1))) W2 W' ∧
        (bb = true → J (enumL 0 pre ++ [(k, st)]) (fun k => O k ∨ (B ≤ k ∧ k < Cb + 1)) W') ∧ (bb = false → Jx (enumL 0 pre ++ [(k, st)]) (fun k => O k ∨ (B ≤ k ∧ k < Cb + 1)) W')) := by
      refine RoundIn.mono (show RoundIn (Fence.wide.inRound l') 0 Try.prog l fn tmps assign body W2 _ from hR0) ?_
      rintro e W' ⟨hrd, (⟨he, h⟩ | ⟨he, h⟩)⟩
      · exact ⟨true, he, hrd, fun _ => h, fun h' => by cases h'⟩
      · exact ⟨false, he, hrd, fun h' => (by cases h'), fun _ => h⟩
    rw [hkl] at hPc hk
    have cY : W2.cell? ⟨B, 0, none⟩ = some (.func (.yield l) #[] #[]) := by rw [cell_of_row W2 B 0 _ _ _ hyB]; rfl
    have cP : W2.cell? ⟨Pl, 0, none⟩ = some (.int .i64 k) := by rw [cell_of_row W2 Pl 0 _ _ _ hPc]; rfl
    have nP : ¬ (BackR Cb (some ⟨g, 0, none⟩) Pl ∨ O Pl) := by
      rintro ((h | ⟨ad, had, h⟩) | h)
      · omega
      · cases had; simp only at h; omega
      · have := hO Pl h; omega
    have next : ∀ W4, RdStep (fun k => BackR Bx a k ∨ (O k ∨ (B ≤ k ∧ k < Cb + 1))) W2 W4 → J (enumL 0 pre ++ [(k, st)]) (fun k => O k ∨ (B ≤ k ∧ k < Cb + 1)) W4 →
        rdPost (fun k => BackR Cb (some ⟨g, 0, none⟩) k ∨ O k) O (AllI J l B Pl (Cb + 1)) (AllX Jx B (Cb + 1)) (pre ++ [st]) W2 .normal { tmps := #[], defers := [] } (W4.setCell ⟨Pl, 0, none⟩ (.int .i64 ((k : Int) + 1))) := by
      intro W4 h1 h2
      have hP4 : W4.heap[Pl]? = some (.cells #[.int .i64 k] 3 (0, 0)) := (h1.block Pl (by omega) (.inr (.inr (by omega)))).trans hPc
      refine ⟨(h1.mono ?_).trans (RdStep.setCell W4 ⟨Pl, 0, none⟩ _ nP), sJ _ _ _ _ _ ?_ (ItStep.setCell W4 ⟨Pl, 0, none⟩ _ (.inr (by simp only; omega))), hO, ?_, ?_, ?_⟩
      · rintro q ((rfl | ⟨ad, had, rfl⟩) | hq)
        · exact .inr (.inr (by omega))
        · cases had; exact .inr (.inr (by simp only; omega))
        · exact .inr (.inl hq)
      · rw [enumL_snoc, hkl]; exact h2
      · have := (RdStep.setCell (M := fun _ => False) W4 ⟨Pl, 0, none⟩ (.int .i64 ((k : Int) + 1)) (fun h => h)).size
        exact Nat.le_trans hsz (Nat.le_trans h1.size this)
      · exact (Below.heap_setCell W4 ⟨Pl, 0, none⟩ _ B (by simp only; omega)).trans ((h1.block B (by omega) (.inr (.inr (by omega)))).trans hyB)
      · rw [heap_setCell_same W4 Pl 0 _ _ _ hP4, List.length_append, hkl]
        rfl
    have stop : ∀ W4, RdStep (fun k => BackR Bx a k ∨ (O k ∨ (B ≤ k ∧ k < Cb + 1))) W2 W4 → Jx (enumL 0 pre ++ [(k, st)]) (fun k => O k ∨ (B ≤ k ∧ k < Cb + 1)) W4 →
        rdPost (fun k => BackR Cb (some ⟨g, 0, none⟩) k ∨ O k) O (AllI J l B Pl (Cb + 1)) (AllX Jx B (Cb + 1)) (pre ++ [st]) W2 .ret { tmps := #[], defers := [] } W4 := by
      intro W4 h1 h2
      refine ⟨h1.mono ?_, rfl, _, h2⟩
      rintro q ((rfl | ⟨ad, had, rfl⟩) | hq)
      · exact .inr (.inr (by omega))
      · cases had; exact .inr (.inr (by simp only; omega))
      · exact .inr (.inl hq)
    have cell4 : ∀ W4, RdStep (fun k => BackR Bx a k ∨ (O k ∨ (B ≤ k ∧ k < Cb + 1))) W2 W4 → W4.cell? ⟨Pl, 0, none⟩ = some (.int .i64 k) ∧ W4.frozen? ⟨Pl, 0, none⟩ = false := by
      intro W4 h1
      have hP4 : W4.heap[Pl]? = some (.cells #[.int .i64 k] 3 (0, 0)) := (h1.block Pl (by omega) (.inr (.inr (by omega)))).trans hPc
      exact ⟨by rw [cell_of_row W4 Pl 0 _ _ _ hP4]; rfl, frozen_of_row W4 Pl 0 _ _ hP4⟩
    have NEXT := Lib.hid next
    have STOP := Lib.hid stop
    have CELL := Lib.hid cell4
    rw [show idxV st (y1, y2) = #[.slice y1 len y2] by rw [idxV, hst]]
    clear next stop cell4 nP hPc hyB hsz hO hj hE hR0 hitems hxs hst hkl a1 a2 a3 a4 hJ5
    gi_wp2
    refine ⟨trivial, ?_⟩
    gi_wp2_with fail
    refine ⟨rfl, hR.mono ?_⟩
    rintro e W4 ⟨bb, rfl, hrd, h1, h2⟩
    cases bb
    · have S4 := Lib.hid (STOP.out W4 hrd (h2 rfl))
      clear h1 h2 hrd hR hy cY cP
      gi_wp2_with fail
      exact S4.out
    · obtain ⟨c4', f4'⟩ := CELL.out W4 hrd
      have N4 := Lib.hid (NEXT.out W4 hrd (h1 rfl))
      clear h1 h2 hrd hR hy cY cP
      gi_wp2_with fail
      exact N4.out
end Go.Proofs.Ytieajkpjkhdjeaa
