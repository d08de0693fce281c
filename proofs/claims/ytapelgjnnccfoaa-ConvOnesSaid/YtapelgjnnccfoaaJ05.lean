import Derived.Test.YtapelgjnnccfoaaJ04
/-
  Package shape's iterator over the index lists: one side more.
-/
namespace Go.Proofs.Ytapelgjnnccfoaa
open Go.RowKit Go.Shelf
attribute [local go_sem] Oper.semAt_some
set_option linter.unusedVariables false
set_option linter.unusedSimpArgs false

set_option maxRecDepth 100000 in
set_option maxHeartbeats 8000000 in
theorem idx_stepF (n : Nat) (hn4 : n + 1 ≤ 4) (Bx b off cap : Nat) (zs : List Int) (hr : allR 1 1024 zs = true) (hlen : zs.length = n + 1) (hcap : n + 1 ≤ cap) (hcm : cap ≤ maxLen)
    (IH : ∀ Bx', IterOfF Try.prog 71 #[.pointer (some ⟨Bx', 0, none⟩)] (BackR Bx' (some ⟨b, off, none⟩)) (BackC Bx' (some ⟨b, off, none⟩) n cap (zs.take n)) (idxN zs n) idxV IdxG FreeI) :
    IterOfF Try.prog 71 #[.pointer (some ⟨Bx, 0, none⟩)] (BackR Bx (some ⟨b, off, none⟩)) (BackC Bx (some ⟨b, off, none⟩) (n + 1) cap zs) (idxN zs (n + 1)) idxV IdxG FreeI := by
  intro l J Jx sJ sJx hY0 W hC h0
  have hY := Lib.hid hY0
  clear hY0
  have hcells : ∀ j, j < n + 1 → W.cell? ⟨b, off + j, none⟩ = some (.int .i64 (zs.getD j 0)) := by
    rcases hC.2.2.2.2 with h4 | ⟨b1, off1, ha, hc⟩
    · omega
    · cases ha; exact hc
  have hBx : Bx < W.heap.size := World.block_lt_of_cell? W _ hC.1
  have hbB : b < W.heap.size := World.block_lt_of_cell? W _ (hcells 0 (by omega))
  have hRB : ∀ k, BackR Bx (some ⟨b, off, none⟩) k → k < W.heap.size := by
    rintro k (rfl | ⟨ad, had, rfl⟩)
    · exact hBx
    · cases had; exact hbB
  obtain ⟨B, hB⟩ : ∃ B, W.heap.size = B := ⟨_, rfl⟩
  rw [hB] at hBx hbB hRB
  have z1 : Below W.heap.size W (W.alloc (.cells #[.func (.yield l) #[] #[]] 62)) := (Below.refl _ _).alloc (Nat.le_refl _) _
  have z2 := z1.alloc (by simp) (.cells #[.int .i64 n] 3)
  have z3 := z2.alloc (by simp; omega) (.cells #[.slice (some ⟨b, off, none⟩) n cap] 23)
  have k1 := cell_later z1 hC.1
  have k2 := cell_later z2 hC.1
  unfold maxLen at hcm
  obtain ⟨x, hx⟩ : ∃ x, zs.getD n 0 = x := ⟨_, rfl⟩
  obtain ⟨x1, x2⟩ := allR_getD hr n (by omega)
  rw [hx] at x1 x2
  refine (callsIn_wide (n := 1)).1 ?_
  refine callsIn_of_wp_marks Try.func71 rfl trivial ?_ rfl
  simp only [Try.ntmps71, List.size_toArray, List.length_cons, List.length_nil, Nat.reduceAdd, Nat.reduceSub, Array.replicate_succ, Array.replicate_zero, List.push_toArray, List.append_toArray, List.nil_append, List.cons_append]
  refine wpIn_wide.2 ?_
  have HX := Lib.hid hx
  have HB := Lib.hid hB
  have HL := Lib.hid hlen
  clear hx hB hlen
  go_wp2_with fail
  refine (indices_any _ _ _ _).mono ?_
  rintro e w' ⟨rfl, rfl⟩
  obtain ⟨W3, hW3⟩ : ∃ W3, ((W.alloc (.cells #[.func (.yield l) #[] #[]] 62)).alloc (.cells #[.int .i64 n] 3)).alloc (.cells #[.slice (some ⟨b, off, none⟩) n cap] 23) = W3 := ⟨_, rfl⟩
  have hs3 : W3.heap.size = B + 3 := by rw [← hW3, ← HB.out]; simp
  have a1 : W3.heap[B]? = some (.cells #[.func (.yield l) #[] #[]] 62 (0, 0)) := by
    rw [← hW3, ← HB.out]
    exact (Below.heap_alloc _ _ _ (by simp; omega)).trans ((Below.heap_alloc _ _ _ (by simp)).trans (World.alloc_heap_new W _))
  have a2 : W3.heap[B + 1]? = some (.cells #[.int .i64 n] 3 (0, 0)) := by
    rw [← hW3, ← HB.out]
    refine (Below.heap_alloc _ _ _ (by simp)).trans ?_
    have := World.alloc_heap_new (W.alloc (.cells #[.func (.yield l) #[] #[]] 62)) (.cells #[.int .i64 n] 3)
    rwa [World.size_alloc] at this
  have a3 : W3.cell? ⟨B + 2, 0, none⟩ = some (.slice (some ⟨b, off, none⟩) n cap) := by
    rw [← hW3, World.cell?_alloc_at _ _ _ _ (by simp [← HB.out])]; rfl
  have z4 : Below W.heap.size W W3 := by rw [← hW3]; exact z3
  have hC3 : BackC Bx (some ⟨b, off, none⟩) (n + 1) cap zs W3 := ⟨cell_later z4 hC.1, hC.2.kept z4⟩
  have hI3 : IntsAt W3 (some ⟨b, off, none⟩) n (zs.take n) := by
    refine ⟨by rw [List.length_take, HL.out]; omega, by omega, fun q hq => hC.2.2.2.1 q (List.mem_of_mem_take hq), .inr ⟨b, off, rfl, fun j hj => ?_⟩⟩
    rw [cell_later z4 (hcells j (by omega))]
    simp [List.getD, List.getElem?_take, hj]
  have hJ3 : J [] (fun k => False ∨ (B ≤ k ∧ k < B + 3)) W3 := by
    refine sJ [] _ _ _ _ h0 ⟨z4.os, z4.tape, z4.output, z4.size, fun _ h => h.elim, fun k hk => ?_, fun k hk => ?_, fun k hk _ => z4.block k hk⟩
    · rcases hk with h | h
      · exact h.elim
      · exact .inr (by rw [HB.out]; exact h.1)
    · rcases hk with h | h
      · exact h.elim
      · exact .inr (by rw [hs3]; exact h.2)
  have e2 : ((W.alloc (.cells #[.func (.yield l) #[] #[]] 62)).alloc (.cells #[.int .i64 n] 3)).heap.size = B + 2 := by simp [HB.out]
  rw [e2, hW3]
  simp only [HB.out]
  clear e2 hW3 k1 k2 z1 z2 z3 hcells
  go_wp2_with fail
  refine (wpIn_wide (n := 1)).1 ?_
  refine range_law (gf := 71) (lb := #[.pointer (some ⟨B + 2, 0, none⟩)]) rfl (enters_of Try.func71 (by kernel_rfl) rfl) (IH (B + 2)).iter (fun _ _ => rfl) ?hR
    (fun st y O W D l o o' h1 h2 h3 => h1.keep D l o o' h2 h3) (fun W' hb' => ⟨cell_later hb' a3, hI3.kept hb'⟩)
    (IdxI J zs n l Bx (some ⟨b, off, none⟩) cap B) (IdxX Jx) (IdxI.stable sJ zs n l Bx _ cap B hRB) (IdxX.stable sJx)
    ⟨fun k => B ≤ k ∧ k < B + 3, hJ3, fun k h1 h2 => ⟨h1, h2⟩, fun _ h => h.elim, by omega, a1, a2, hC3⟩ ?round ?done ?stop
  case hR =>
    rintro k (rfl | ⟨ad, had, rfl⟩)
    · omega
    · cases had; simp only; omega
  case stop =>
    rintro D O c pre W' hD hO hdef ⟨rfl, p, X, hx⟩
    have fin : ∃ pre O, Jx pre O (W'.putObj D (.deferred none)) := ⟨p, _, sJx _ _ _ _ _ hx (ItStep.putObj W' D _ (.inl hO))⟩
    have F := Lib.hid fin
    have HD := Lib.hid hdef
    clear fin hx hdef
    refine wpIn_wide.2 ?_
    go_wp2_with fail
    exact leaves_mark HD.out ⟨_, results_none rfl _ _ _, ⟨⟨_, rfl⟩, .inr F.out⟩⟩
  case done =>
    rintro D O W' hD hO hdef ⟨X, hj, -⟩
    have fin : ∃ O, J (idxN zs (n + 1)) O (W'.putObj D (.deferred none)) := ⟨_, sJ _ _ _ _ _ hj (ItStep.putObj W' D _ (.inl hO))⟩
    have F := Lib.hid fin
    have HD := Lib.hid hdef
    clear fin hj hdef
    go_wp2_with fail
    exact leaves_mark HD.out ⟨_, results_none rfl _ _ _, ⟨⟨_, rfl⟩, .inl F.out⟩⟩
  case round =>
    rintro l' pre st y rest O Wa W2 hxs ⟨X, hj, hX, hO, hsz, hyB, hlB, hBC⟩ hE
    have hst : st.length = n := idxN_len zs n st (by rw [hxs]; simp)
    obtain ⟨y1, y2⟩ := y
    have c1 := hBC.1
    have c2 : W2.cell? ⟨B + 1, 0, none⟩ = some (.int .i64 n) := by rw [cell_of_row W2 (B + 1) 0 _ _ _ hlB]; rfl
    have c3 : W2.cell? ⟨b, off + n, none⟩ = some (.int .i64 x) := by
      rcases hBC.2.2.2.2 with h4 | ⟨b1, off1, ha, hc⟩
      · omega
      · cases ha; rw [hc n (by omega), HX.out]
    have start : IdxL J zs n l Bx (some ⟨b, off, none⟩) cap B pre st (y1, y2) O W2 x (.int .i64 0) W2 := ⟨0, X, by omega, rfl, by simpa [rowN] using hj, hX, hsz, hyB, hlB, hBC, hE.1, RdStep.refl _ _⟩
    have ST := Lib.hid start
    have HXS := Lib.hid hxs
    have HO := Lib.hid hO
    have HST := Lib.hid hst
    rw [show idxV st (y1, y2) = #[.slice y1 n y2] by rw [idxV, hst]]
    clear start hj hX hsz hyB hlB hBC hE hxs
    gi_wp2
    refine ⟨trivial, ?_⟩
    gi_wp2_with fail
    gi_loopw [23] (fun v wr => IdxL J zs n l Bx (some ⟨b, off, none⟩) cap B pre st (y1, y2) O W2 x v wr) (fun v _ => (x - intOf v).toNat)
    case atStart => exact ST.out
    case round =>
      obtain ⟨i, X', hi, rfl, hj, hX', hsz', hyB, hlB, hBC, hE, hrd⟩ := hrel
      by_cases hlt : (i : Int) < x
      · obtain ⟨g, cap2, wG, hrun, g1, g2, g3, g4, g5, hbG, hcur⟩ := append_idxF st (y1, y2) O wr i hE (by rw [HST.out]; omega) (by omega) (by omega)
        simp only at hrun
        rw [HST.out] at hrun g3 g4
        obtain ⟨r, hr2⟩ := idx_split HXS.out i (by rw [HX.out]; omega)
        have hJ' : J (flatN zs n pre ++ rowN st i) (fun k => O k ∨ (X' k ∨ k = g)) wG := by
          refine sJ _ _ _ _ _ hj ⟨hbG.os, hbG.tape, hbG.output, hbG.size, fun k hk => hk.elim .inl (fun h => .inr (.inl h)), fun k hk => ?_, fun k hk => ?_, fun k hk _ => hbG.block k hk⟩
          · rcases hk with h | h | h
            · exact .inl (.inl h)
            · exact .inl (.inr h)
            · exact .inr (by omega)
          · rcases hk with h | h | h
            · exact .inl (.inl h)
            · exact .inl (.inr h)
            · exact .inr (by omega)
        have hE' : IdxG (st ++ [(i : Int)]) (some ⟨g, 0, none⟩, cap2) (fun k => O k ∨ (X' k ∨ k = g)) wG := by
          refine ⟨⟨?_, ?_, g5, .inr ⟨g, rfl, .inr (.inr rfl)⟩⟩, fun ad had => by cases had; exact hcur⟩
          · rw [List.length_append, HST.out]; exact g3
          · rw [List.length_append, HST.out]; exact g4
        obtain ⟨fn, tmps, assign, body, hy, hR0⟩ := yield_any 0 (hY.out _ _ _ r _ wG hr2 hJ' hE')
        rw [show idxV (st ++ [(i : Int)]) (some ⟨g, 0, none⟩, cap2) = #[.slice (some ⟨g, 0, none⟩) (n + 1) cap2] by rw [idxV, List.length_append, HST.out]; rfl] at hy
        have hR : RoundIn (Fence.wide.inRound l') 0 Try.prog l fn tmps assign body wG (fun e W' => ∃ bb : Bool, e = .returned (.bool bb) ∧ YP J Jx (flatN zs n pre ++ rowN st i ++ [st ++ [(i : Int)]]) (fun k => (BackR Bx (some ⟨b, off, none⟩) k ∨ (O k ∨ (X' k ∨ k = g))) ∧ k ≠ g) (fun k => O k ∨ (X' k ∨ k = g)) wG (bb, W')) := by
          refine RoundIn.mono (show RoundIn (Fence.wide.inRound l') 0 Try.prog l fn tmps assign body wG _ from hR0) ?_
          rintro e W' ⟨hrd, (⟨he, h⟩ | ⟨he, h⟩)⟩
          · exact ⟨true, he, hrd.mono (fun k hk => hk.1.elim .inl (fun q => .inr ⟨q, fun hf => hk.2 (FreeI.one.1 hf)⟩)), fun _ => h, fun h' => by cases h'⟩
          · exact ⟨false, he, hrd.mono (fun k hk => hk.1.elim .inl (fun q => .inr ⟨q, fun hf => hk.2 (FreeI.one.1 hf)⟩)), fun h' => (by cases h'), fun _ => h⟩
        have cY : wr.cell? ⟨B, 0, none⟩ = some (.func (.yield l) #[] #[]) := by rw [cell_of_row wr B 0 _ _ _ hyB]; rfl
        have clipC : ∀ w, Calls Try.prog 72 #[.slice y1 n y2] w fun e w' => e = .returned (.slice y1 n n) ∧ w = w' := by
          intro w
          rcases hE.2.2.2 with ⟨h1, h2⟩ | ⟨bs, h1, h2⟩
          · have hn0 : n = 0 := by rw [← HST.out, h1]; rfl
            subst hn0
            cases h2
            exact clip_none w
          · simp only at h1
            subst h1
            have := hE.2.1
            rw [HST.out] at this
            exact clip_some bs 0 n y2 w this hE.2.2.1
        have CL := Lib.hid clipC
        have bA : Below wr.heap.size wr (wr.alloc (.cells #[.int .i64 i] 3)) := (Below.refl _ _).alloc (Nat.le_refl _) _
        have cY2 := cell_later bA cY
        have cY3 := cell_later hbG cY
        have whole : ∀ W4, RdStep (fun k => (BackR Bx (some ⟨b, off, none⟩) k ∨ (O k ∨ (X' k ∨ k = g))) ∧ k ≠ g) wG W4 → RdStep (fun k => BackR Bx (some ⟨b, off, none⟩) k ∨ (O k ∨ (X' k ∨ k = g))) wr W4 := fun W4 h => RdStep.trans_new (RdStep.of_below hbG) h g1
        have hr2' : ∀ W4, RdStep (fun k => (BackR Bx (some ⟨b, off, none⟩) k ∨ (O k ∨ (X' k ∨ k = g))) ∧ k ≠ g) wG W4 → RdStep (fun k => BackR (B + 2) (some ⟨b, off, none⟩) k ∨ O k) W2 W4 := by
          intro W4 h
          refine hrd.trans ((whole W4 h).mono ?_)
          rintro k ((rfl | hk) | hk)
          · exact .inr (.inr (.inl (hX' _ (by omega) (by omega))))
          · exact .inl (.inr hk)
          · exact .inr (.inl hk)
        have next : ∀ W4, YP J Jx (flatN zs n pre ++ rowN st i ++ [st ++ [(i : Int)]]) (fun k => (BackR Bx (some ⟨b, off, none⟩) k ∨ (O k ∨ (X' k ∨ k = g))) ∧ k ≠ g) (fun k => O k ∨ (X' k ∨ k = g)) wG (true, W4) →
            IdxL J zs n l Bx (some ⟨b, off, none⟩) cap B pre st (y1, y2) O W2 x (.int .i64 ((i + 1 : Nat) : Int)) W4 := by
          rintro W4 ⟨h1, h2, -⟩
          have h3 := whole W4 h1
          refine ⟨i + 1, fun k => X' k ∨ k = g, by omega, rfl, ?_, fun k q1 q2 => .inl (hX' k q1 q2), Nat.le_trans hsz' h3.size, ?_, ?_, ?_, ?_, hr2' W4 h1⟩
          · rw [rowN_succ, ← List.append_assoc]; exact h2 rfl
          · exact (h3.block B (by omega) (.inr (.inr (.inl (hX' B (by omega) (by omega)))))).trans hyB
          · exact (h3.block (B + 1) (by omega) (.inr (.inr (.inl (hX' (B + 1) (by omega) (by omega)))))).trans hlB
          · exact BackC.round (O := fun k => O k ∨ (X' k ∨ k = g)) hBC h3
          · exact hE.round h3 (fun k hk => .inr (.inl hk))
        have stop : ∀ W4, YP J Jx (flatN zs n pre ++ rowN st i ++ [st ++ [(i : Int)]]) (fun k => (BackR Bx (some ⟨b, off, none⟩) k ∨ (O k ∨ (X' k ∨ k = g))) ∧ k ≠ g) (fun k => O k ∨ (X' k ∨ k = g)) wG (false, W4) →
            rdPost (fun k => BackR (B + 2) (some ⟨b, off, none⟩) k ∨ O k) O (IdxI J zs n l Bx (some ⟨b, off, none⟩) cap B) (IdxX Jx) (pre ++ [st]) W2 .ret { tmps := #[], defers := [] } W4 := by
          rintro W4 ⟨h1, -, h2⟩
          exact ⟨hr2' W4 h1, rfl, _, _, h2 rfl⟩
        have NEXT := Lib.hid next
        have STOP := Lib.hid stop
        clear next stop hr2' whole bA
        clear hX' hsz' hyB hlB hBC hE hrd hj hJ' hE' hR0 clipC g3 g4 g5 hr2 g1 g2 hbG
        have mixed : Try.prog.follows .mixedOrders = true := by kernel_rfl
        gi_wp2_with fail
        refine region_cut2 (YP J Jx (flatN zs n pre ++ rowN st i ++ [st ++ [(i : Int)]]) (fun k => (BackR Bx (some ⟨b, off, none⟩) k ∨ (O k ∨ (X' k ∨ k = g))) ∧ k ≠ g) (fun k => O k ∨ (X' k ∨ k = g)) wG)
          (fun p a => (((((((a.put (some 26) (.func (.yield l) #[] #[])).put (some 27) (.slice y1 n y2)).put (some 28) (.slice y1 n n)).put (some 29) (.int .i64 i)).put (some 30) (.slice (some ⟨wr.heap.size, 0, none⟩) 1 1)).put (some 31) (.slice (some ⟨g, 0, none⟩) (n + 1) cap2)).put (some 32) (.bool p.1)).put (some 33) (.bool (!p.1)))
          (fun p => p.2) ?_ ?_
        · refine wpIn_region_any mixed ?_
          change wpAnyIn _ _ _ _ _ _ _ _ _ (World.drew _)
          refine wpAnyIn_ready (rs := [0, 1, 3]) (by kernel_rfl) (by simp) ?_
          refine AllReadyIn.cons rfl (fun K hK => ?_) ?_
          · go_simp
            refine hK _ _ ?_
            clear hK K
            refine wpAnyIn_ready (rs := [1, 3]) (by kernel_rfl) (by simp) ?_
            refine AllReadyIn.cons rfl (fun K hK => ?_) ?_
            · go_simp
              refine hK _ _ ?_
              clear hK K
              refine wpAnyIn_ready (rs := [2, 3]) (by kernel_rfl) (by simp) ?_
              refine AllReadyIn.cons rfl (fun K hK => ?_) ?_
              · go_simp
                refine ⟨trivial, rfl, (CallsIn.inRound l' (callsIn_wide.2 (CL.out _))).mono ?_⟩
                rintro e w' ⟨rfl, rfl⟩
                go_simp
                refine hK _ _ ?_
                clear hK K
                refine wpAnyIn_ready (rs := [3]) (by kernel_rfl) (by simp) ?_
                refine AllReadyIn.cons rfl (fun K hK => ?_) ?_
                · go_simp
                  refine hK _ _ ?_
                  clear hK K
                  refine wpAnyIn_ready (rs := [4]) (by kernel_rfl) (by simp) ?_
                  refine AllReadyIn.cons rfl (fun K hK => ?_) ?_
                  · go_simp
                    refine hK _ _ ?_
                    clear hK K
                    refine wpAnyIn_ready (rs := [5]) (by kernel_rfl) (by simp) ?_
                    refine AllReadyIn.cons rfl (fun K hK => ?_) ?_
                    · refine step_append_run rfl _ _ 22 rfl _ _ rfl rfl (.slice (some ⟨g, 0, none⟩) (n + 1) cap2) wG hrun ?_
                      refine hK _ _ ?_
                      clear hK K
                      refine wpAnyIn_ready (rs := [6]) (by kernel_rfl) (by simp) ?_
                      refine AllReadyIn.cons rfl (fun K hK => ?_) ?_
                      · go_simp
                        refine ⟨rfl, hR.mono ?_⟩
                        rintro e W4 ⟨bb, rfl, hyp⟩
                        go_simp
                        refine hK _ _ ?_
                        clear hK K
                        refine wpAnyIn_ready (rs := [7]) (by kernel_rfl) (by simp) ?_
                        refine AllReadyIn.cons rfl (fun K hK => ?_) ?_
                        · go_simp
                          refine hK _ _ ?_
                          clear hK K
                          refine wpAnyIn_done (by kernel_rfl) ?_ _
                          exact ⟨(bb, W4), hyp, rfl, by simp [Act.put], rfl⟩
                        exact AllReadyIn.nil
                      exact AllReadyIn.nil
                    exact AllReadyIn.nil
                  exact AllReadyIn.nil
                exact AllReadyIn.nil
              refine AllReadyIn.cons rfl (fun K hK => ?_) ?_
              · go_simp
                refine hK _ _ ?_
                clear hK K
                refine wpAnyIn_ready (rs := [2, 4]) (by kernel_rfl) (by simp) ?_
                refine AllReadyIn.cons rfl (fun K hK => ?_) ?_
                · go_simp
                  refine ⟨trivial, rfl, (CallsIn.inRound l' (callsIn_wide.2 (CL.out _))).mono ?_⟩
                  rintro e w' ⟨rfl, rfl⟩
                  go_simp
                  refine hK _ _ ?_
                  clear hK K
                  refine wpAnyIn_ready (rs := [4]) (by kernel_rfl) (by simp) ?_
                  refine AllReadyIn.cons rfl (fun K hK => ?_) ?_
                  · go_simp
                    refine hK _ _ ?_
                    clear hK K
                    refine wpAnyIn_ready (rs := [5]) (by kernel_rfl) (by simp) ?_
                    refine AllReadyIn.cons rfl (fun K hK => ?_) ?_
                    · refine step_append_run rfl _ _ 22 rfl _ _ rfl rfl (.slice (some ⟨g, 0, none⟩) (n + 1) cap2) wG hrun ?_
                      refine hK _ _ ?_
                      clear hK K
                      refine wpAnyIn_ready (rs := [6]) (by kernel_rfl) (by simp) ?_
                      refine AllReadyIn.cons rfl (fun K hK => ?_) ?_
                      · go_simp
                        refine ⟨rfl, hR.mono ?_⟩
                        rintro e W4 ⟨bb, rfl, hyp⟩
                        go_simp
                        refine hK _ _ ?_
                        clear hK K
                        refine wpAnyIn_ready (rs := [7]) (by kernel_rfl) (by simp) ?_
                        refine AllReadyIn.cons rfl (fun K hK => ?_) ?_
                        · go_simp
                          refine hK _ _ ?_
                          clear hK K
                          refine wpAnyIn_done (by kernel_rfl) ?_ _
                          exact ⟨(bb, W4), hyp, rfl, by simp [Act.put], rfl⟩
                        exact AllReadyIn.nil
                      exact AllReadyIn.nil
                    exact AllReadyIn.nil
                  exact AllReadyIn.nil
                refine AllReadyIn.cons rfl (fun K hK => ?_) ?_
                · go_simp
                  refine hK _ _ ?_
                  clear hK K
                  refine wpAnyIn_ready (rs := [2]) (by kernel_rfl) (by simp) ?_
                  refine AllReadyIn.cons rfl (fun K hK => ?_) ?_
                  · go_simp
                    refine ⟨trivial, rfl, (CallsIn.inRound l' (callsIn_wide.2 (CL.out _))).mono ?_⟩
                    rintro e w' ⟨rfl, rfl⟩
                    go_simp
                    refine hK _ _ ?_
                    clear hK K
                    refine wpAnyIn_ready (rs := [5]) (by kernel_rfl) (by simp) ?_
                    refine AllReadyIn.cons rfl (fun K hK => ?_) ?_
                    · refine step_append_run rfl _ _ 22 rfl _ _ rfl rfl (.slice (some ⟨g, 0, none⟩) (n + 1) cap2) wG hrun ?_
                      refine hK _ _ ?_
                      clear hK K
                      refine wpAnyIn_ready (rs := [6]) (by kernel_rfl) (by simp) ?_
                      refine AllReadyIn.cons rfl (fun K hK => ?_) ?_
                      · go_simp
                        refine ⟨rfl, hR.mono ?_⟩
                        rintro e W4 ⟨bb, rfl, hyp⟩
                        go_simp
                        refine hK _ _ ?_
                        clear hK K
                        refine wpAnyIn_ready (rs := [7]) (by kernel_rfl) (by simp) ?_
                        refine AllReadyIn.cons rfl (fun K hK => ?_) ?_
                        · go_simp
                          refine hK _ _ ?_
                          clear hK K
                          refine wpAnyIn_done (by kernel_rfl) ?_ _
                          exact ⟨(bb, W4), hyp, rfl, by simp [Act.put], rfl⟩
                        exact AllReadyIn.nil
                      exact AllReadyIn.nil
                    exact AllReadyIn.nil
                  exact AllReadyIn.nil
                exact AllReadyIn.nil
              exact AllReadyIn.nil
            refine AllReadyIn.cons rfl (fun K hK => ?_) ?_
            · go_simp
              refine hK _ _ ?_
              clear hK K
              refine wpAnyIn_ready (rs := [1, 4]) (by kernel_rfl) (by simp) ?_
              refine AllReadyIn.cons rfl (fun K hK => ?_) ?_
              · go_simp
                refine hK _ _ ?_
                clear hK K
                refine wpAnyIn_ready (rs := [2, 4]) (by kernel_rfl) (by simp) ?_
                refine AllReadyIn.cons rfl (fun K hK => ?_) ?_
                · go_simp
                  refine ⟨trivial, rfl, (CallsIn.inRound l' (callsIn_wide.2 (CL.out _))).mono ?_⟩
                  rintro e w' ⟨rfl, rfl⟩
                  go_simp
                  refine hK _ _ ?_
                  clear hK K
                  refine wpAnyIn_ready (rs := [4]) (by kernel_rfl) (by simp) ?_
                  refine AllReadyIn.cons rfl (fun K hK => ?_) ?_
                  · go_simp
                    refine hK _ _ ?_
                    clear hK K
                    refine wpAnyIn_ready (rs := [5]) (by kernel_rfl) (by simp) ?_
                    refine AllReadyIn.cons rfl (fun K hK => ?_) ?_
                    · refine step_append_run rfl _ _ 22 rfl _ _ rfl rfl (.slice (some ⟨g, 0, none⟩) (n + 1) cap2) wG hrun ?_
                      refine hK _ _ ?_
                      clear hK K
                      refine wpAnyIn_ready (rs := [6]) (by kernel_rfl) (by simp) ?_
                      refine AllReadyIn.cons rfl (fun K hK => ?_) ?_
                      · go_simp
                        refine ⟨rfl, hR.mono ?_⟩
                        rintro e W4 ⟨bb, rfl, hyp⟩
                        go_simp
                        refine hK _ _ ?_
                        clear hK K
                        refine wpAnyIn_ready (rs := [7]) (by kernel_rfl) (by simp) ?_
                        refine AllReadyIn.cons rfl (fun K hK => ?_) ?_
                        · go_simp
                          refine hK _ _ ?_
                          clear hK K
                          refine wpAnyIn_done (by kernel_rfl) ?_ _
                          exact ⟨(bb, W4), hyp, rfl, by simp [Act.put], rfl⟩
                        exact AllReadyIn.nil
                      exact AllReadyIn.nil
                    exact AllReadyIn.nil
                  exact AllReadyIn.nil
                refine AllReadyIn.cons rfl (fun K hK => ?_) ?_
                · go_simp
                  refine hK _ _ ?_
                  clear hK K
                  refine wpAnyIn_ready (rs := [2]) (by kernel_rfl) (by simp) ?_
                  refine AllReadyIn.cons rfl (fun K hK => ?_) ?_
                  · go_simp
                    refine ⟨trivial, rfl, (CallsIn.inRound l' (callsIn_wide.2 (CL.out _))).mono ?_⟩
                    rintro e w' ⟨rfl, rfl⟩
                    go_simp
                    refine hK _ _ ?_
                    clear hK K
                    refine wpAnyIn_ready (rs := [5]) (by kernel_rfl) (by simp) ?_
                    refine AllReadyIn.cons rfl (fun K hK => ?_) ?_
                    · refine step_append_run rfl _ _ 22 rfl _ _ rfl rfl (.slice (some ⟨g, 0, none⟩) (n + 1) cap2) wG hrun ?_
                      refine hK _ _ ?_
                      clear hK K
                      refine wpAnyIn_ready (rs := [6]) (by kernel_rfl) (by simp) ?_
                      refine AllReadyIn.cons rfl (fun K hK => ?_) ?_
                      · go_simp
                        refine ⟨rfl, hR.mono ?_⟩
                        rintro e W4 ⟨bb, rfl, hyp⟩
                        go_simp
                        refine hK _ _ ?_
                        clear hK K
                        refine wpAnyIn_ready (rs := [7]) (by kernel_rfl) (by simp) ?_
                        refine AllReadyIn.cons rfl (fun K hK => ?_) ?_
                        · go_simp
                          refine hK _ _ ?_
                          clear hK K
                          refine wpAnyIn_done (by kernel_rfl) ?_ _
                          exact ⟨(bb, W4), hyp, rfl, by simp [Act.put], rfl⟩
                        exact AllReadyIn.nil
                      exact AllReadyIn.nil
                    exact AllReadyIn.nil
                  exact AllReadyIn.nil
                exact AllReadyIn.nil
              refine AllReadyIn.cons rfl (fun K hK => ?_) ?_
              · go_simp
                refine hK _ _ ?_
                clear hK K
                refine wpAnyIn_ready (rs := [1]) (by kernel_rfl) (by simp) ?_
                refine AllReadyIn.cons rfl (fun K hK => ?_) ?_
                · go_simp
                  refine hK _ _ ?_
                  clear hK K
                  refine wpAnyIn_ready (rs := [2]) (by kernel_rfl) (by simp) ?_
                  refine AllReadyIn.cons rfl (fun K hK => ?_) ?_
                  · go_simp
                    refine ⟨trivial, rfl, (CallsIn.inRound l' (callsIn_wide.2 (CL.out _))).mono ?_⟩
                    rintro e w' ⟨rfl, rfl⟩
                    go_simp
                    refine hK _ _ ?_
                    clear hK K
                    refine wpAnyIn_ready (rs := [5]) (by kernel_rfl) (by simp) ?_
                    refine AllReadyIn.cons rfl (fun K hK => ?_) ?_
                    · refine step_append_run rfl _ _ 22 rfl _ _ rfl rfl (.slice (some ⟨g, 0, none⟩) (n + 1) cap2) wG hrun ?_
                      refine hK _ _ ?_
                      clear hK K
                      refine wpAnyIn_ready (rs := [6]) (by kernel_rfl) (by simp) ?_
                      refine AllReadyIn.cons rfl (fun K hK => ?_) ?_
                      · go_simp
                        refine ⟨rfl, hR.mono ?_⟩
                        rintro e W4 ⟨bb, rfl, hyp⟩
                        go_simp
                        refine hK _ _ ?_
                        clear hK K
                        refine wpAnyIn_ready (rs := [7]) (by kernel_rfl) (by simp) ?_
                        refine AllReadyIn.cons rfl (fun K hK => ?_) ?_
                        · go_simp
                          refine hK _ _ ?_
                          clear hK K
                          refine wpAnyIn_done (by kernel_rfl) ?_ _
                          exact ⟨(bb, W4), hyp, rfl, by simp [Act.put], rfl⟩
                        exact AllReadyIn.nil
                      exact AllReadyIn.nil
                    exact AllReadyIn.nil
                  exact AllReadyIn.nil
                exact AllReadyIn.nil
              exact AllReadyIn.nil
            exact AllReadyIn.nil
          refine AllReadyIn.cons rfl (fun K hK => ?_) ?_
          · go_simp
            refine hK _ _ ?_
            clear hK K
            refine wpAnyIn_ready (rs := [0, 2, 3]) (by kernel_rfl) (by simp) ?_
            refine AllReadyIn.cons rfl (fun K hK => ?_) ?_
            · go_simp
              refine hK _ _ ?_
              clear hK K
              refine wpAnyIn_ready (rs := [2, 3]) (by kernel_rfl) (by simp) ?_
              refine AllReadyIn.cons rfl (fun K hK => ?_) ?_
              · go_simp
                refine ⟨trivial, rfl, (CallsIn.inRound l' (callsIn_wide.2 (CL.out _))).mono ?_⟩
                rintro e w' ⟨rfl, rfl⟩
                go_simp
                refine hK _ _ ?_
                clear hK K
                refine wpAnyIn_ready (rs := [3]) (by kernel_rfl) (by simp) ?_
                refine AllReadyIn.cons rfl (fun K hK => ?_) ?_
                · go_simp
                  refine hK _ _ ?_
                  clear hK K
                  refine wpAnyIn_ready (rs := [4]) (by kernel_rfl) (by simp) ?_
                  refine AllReadyIn.cons rfl (fun K hK => ?_) ?_
                  · go_simp
                    refine hK _ _ ?_
                    clear hK K
                    refine wpAnyIn_ready (rs := [5]) (by kernel_rfl) (by simp) ?_
                    refine AllReadyIn.cons rfl (fun K hK => ?_) ?_
                    · refine step_append_run rfl _ _ 22 rfl _ _ rfl rfl (.slice (some ⟨g, 0, none⟩) (n + 1) cap2) wG hrun ?_
                      refine hK _ _ ?_
                      clear hK K
                      refine wpAnyIn_ready (rs := [6]) (by kernel_rfl) (by simp) ?_
                      refine AllReadyIn.cons rfl (fun K hK => ?_) ?_
                      · go_simp
                        refine ⟨rfl, hR.mono ?_⟩
                        rintro e W4 ⟨bb, rfl, hyp⟩
                        go_simp
                        refine hK _ _ ?_
                        clear hK K
                        refine wpAnyIn_ready (rs := [7]) (by kernel_rfl) (by simp) ?_
                        refine AllReadyIn.cons rfl (fun K hK => ?_) ?_
                        · go_simp
                          refine hK _ _ ?_
                          clear hK K
                          refine wpAnyIn_done (by kernel_rfl) ?_ _
                          exact ⟨(bb, W4), hyp, rfl, by simp [Act.put], rfl⟩
                        exact AllReadyIn.nil
                      exact AllReadyIn.nil
                    exact AllReadyIn.nil
                  exact AllReadyIn.nil
                exact AllReadyIn.nil
              refine AllReadyIn.cons rfl (fun K hK => ?_) ?_
              · go_simp
                refine hK _ _ ?_
                clear hK K
                refine wpAnyIn_ready (rs := [2, 4]) (by kernel_rfl) (by simp) ?_
                refine AllReadyIn.cons rfl (fun K hK => ?_) ?_
                · go_simp
                  refine ⟨trivial, rfl, (CallsIn.inRound l' (callsIn_wide.2 (CL.out _))).mono ?_⟩
                  rintro e w' ⟨rfl, rfl⟩
                  go_simp
                  refine hK _ _ ?_
                  clear hK K
                  refine wpAnyIn_ready (rs := [4]) (by kernel_rfl) (by simp) ?_
                  refine AllReadyIn.cons rfl (fun K hK => ?_) ?_
                  · go_simp
                    refine hK _ _ ?_
                    clear hK K
                    refine wpAnyIn_ready (rs := [5]) (by kernel_rfl) (by simp) ?_
                    refine AllReadyIn.cons rfl (fun K hK => ?_) ?_
                    · refine step_append_run rfl _ _ 22 rfl _ _ rfl rfl (.slice (some ⟨g, 0, none⟩) (n + 1) cap2) wG hrun ?_
                      refine hK _ _ ?_
                      clear hK K
                      refine wpAnyIn_ready (rs := [6]) (by kernel_rfl) (by simp) ?_
                      refine AllReadyIn.cons rfl (fun K hK => ?_) ?_
                      · go_simp
                        refine ⟨rfl, hR.mono ?_⟩
                        rintro e W4 ⟨bb, rfl, hyp⟩
                        go_simp
                        refine hK _ _ ?_
                        clear hK K
                        refine wpAnyIn_ready (rs := [7]) (by kernel_rfl) (by simp) ?_
                        refine AllReadyIn.cons rfl (fun K hK => ?_) ?_
                        · go_simp
                          refine hK _ _ ?_
                          clear hK K
                          refine wpAnyIn_done (by kernel_rfl) ?_ _
                          exact ⟨(bb, W4), hyp, rfl, by simp [Act.put], rfl⟩
                        exact AllReadyIn.nil
                      exact AllReadyIn.nil
                    exact AllReadyIn.nil
                  exact AllReadyIn.nil
                refine AllReadyIn.cons rfl (fun K hK => ?_) ?_
                · go_simp
                  refine hK _ _ ?_
                  clear hK K
                  refine wpAnyIn_ready (rs := [2]) (by kernel_rfl) (by simp) ?_
                  refine AllReadyIn.cons rfl (fun K hK => ?_) ?_
                  · go_simp
                    refine ⟨trivial, rfl, (CallsIn.inRound l' (callsIn_wide.2 (CL.out _))).mono ?_⟩
                    rintro e w' ⟨rfl, rfl⟩
                    go_simp
                    refine hK _ _ ?_
                    clear hK K
                    refine wpAnyIn_ready (rs := [5]) (by kernel_rfl) (by simp) ?_
                    refine AllReadyIn.cons rfl (fun K hK => ?_) ?_
                    · refine step_append_run rfl _ _ 22 rfl _ _ rfl rfl (.slice (some ⟨g, 0, none⟩) (n + 1) cap2) wG hrun ?_
                      refine hK _ _ ?_
                      clear hK K
                      refine wpAnyIn_ready (rs := [6]) (by kernel_rfl) (by simp) ?_
                      refine AllReadyIn.cons rfl (fun K hK => ?_) ?_
                      · go_simp
                        refine ⟨rfl, hR.mono ?_⟩
                        rintro e W4 ⟨bb, rfl, hyp⟩
                        go_simp
                        refine hK _ _ ?_
                        clear hK K
                        refine wpAnyIn_ready (rs := [7]) (by kernel_rfl) (by simp) ?_
                        refine AllReadyIn.cons rfl (fun K hK => ?_) ?_
                        · go_simp
                          refine hK _ _ ?_
                          clear hK K
                          refine wpAnyIn_done (by kernel_rfl) ?_ _
                          exact ⟨(bb, W4), hyp, rfl, by simp [Act.put], rfl⟩
                        exact AllReadyIn.nil
                      exact AllReadyIn.nil
                    exact AllReadyIn.nil
                  exact AllReadyIn.nil
                exact AllReadyIn.nil
              exact AllReadyIn.nil
            refine AllReadyIn.cons rfl (fun K hK => ?_) ?_
            · go_simp
              refine ⟨trivial, rfl, (CallsIn.inRound l' (callsIn_wide.2 (CL.out _))).mono ?_⟩
              rintro e w' ⟨rfl, rfl⟩
              go_simp
              refine hK _ _ ?_
              clear hK K
              refine wpAnyIn_ready (rs := [0, 3]) (by kernel_rfl) (by simp) ?_
              refine AllReadyIn.cons rfl (fun K hK => ?_) ?_
              · go_simp
                refine hK _ _ ?_
                clear hK K
                refine wpAnyIn_ready (rs := [3]) (by kernel_rfl) (by simp) ?_
                refine AllReadyIn.cons rfl (fun K hK => ?_) ?_
                · go_simp
                  refine hK _ _ ?_
                  clear hK K
                  refine wpAnyIn_ready (rs := [4]) (by kernel_rfl) (by simp) ?_
                  refine AllReadyIn.cons rfl (fun K hK => ?_) ?_
                  · go_simp
                    refine hK _ _ ?_
                    clear hK K
                    refine wpAnyIn_ready (rs := [5]) (by kernel_rfl) (by simp) ?_
                    refine AllReadyIn.cons rfl (fun K hK => ?_) ?_
                    · refine step_append_run rfl _ _ 22 rfl _ _ rfl rfl (.slice (some ⟨g, 0, none⟩) (n + 1) cap2) wG hrun ?_
                      refine hK _ _ ?_
                      clear hK K
                      refine wpAnyIn_ready (rs := [6]) (by kernel_rfl) (by simp) ?_
                      refine AllReadyIn.cons rfl (fun K hK => ?_) ?_
                      · go_simp
                        refine ⟨rfl, hR.mono ?_⟩
                        rintro e W4 ⟨bb, rfl, hyp⟩
                        go_simp
                        refine hK _ _ ?_
                        clear hK K
                        refine wpAnyIn_ready (rs := [7]) (by kernel_rfl) (by simp) ?_
                        refine AllReadyIn.cons rfl (fun K hK => ?_) ?_
                        · go_simp
                          refine hK _ _ ?_
                          clear hK K
                          refine wpAnyIn_done (by kernel_rfl) ?_ _
                          exact ⟨(bb, W4), hyp, rfl, by simp [Act.put], rfl⟩
                        exact AllReadyIn.nil
                      exact AllReadyIn.nil
                    exact AllReadyIn.nil
                  exact AllReadyIn.nil
                exact AllReadyIn.nil
              refine AllReadyIn.cons rfl (fun K hK => ?_) ?_
              · go_simp
                refine hK _ _ ?_
                clear hK K
                refine wpAnyIn_ready (rs := [0, 4]) (by kernel_rfl) (by simp) ?_
                refine AllReadyIn.cons rfl (fun K hK => ?_) ?_
                · go_simp
                  refine hK _ _ ?_
                  clear hK K
                  refine wpAnyIn_ready (rs := [4]) (by kernel_rfl) (by simp) ?_
                  refine AllReadyIn.cons rfl (fun K hK => ?_) ?_
                  · go_simp
                    refine hK _ _ ?_
                    clear hK K
                    refine wpAnyIn_ready (rs := [5]) (by kernel_rfl) (by simp) ?_
                    refine AllReadyIn.cons rfl (fun K hK => ?_) ?_
                    · refine step_append_run rfl _ _ 22 rfl _ _ rfl rfl (.slice (some ⟨g, 0, none⟩) (n + 1) cap2) wG hrun ?_
                      refine hK _ _ ?_
                      clear hK K
                      refine wpAnyIn_ready (rs := [6]) (by kernel_rfl) (by simp) ?_
                      refine AllReadyIn.cons rfl (fun K hK => ?_) ?_
                      · go_simp
                        refine ⟨rfl, hR.mono ?_⟩
                        rintro e W4 ⟨bb, rfl, hyp⟩
                        go_simp
                        refine hK _ _ ?_
                        clear hK K
                        refine wpAnyIn_ready (rs := [7]) (by kernel_rfl) (by simp) ?_
                        refine AllReadyIn.cons rfl (fun K hK => ?_) ?_
                        · go_simp
                          refine hK _ _ ?_
                          clear hK K
                          refine wpAnyIn_done (by kernel_rfl) ?_ _
                          exact ⟨(bb, W4), hyp, rfl, by simp [Act.put], rfl⟩
                        exact AllReadyIn.nil
                      exact AllReadyIn.nil
                    exact AllReadyIn.nil
                  exact AllReadyIn.nil
                refine AllReadyIn.cons rfl (fun K hK => ?_) ?_
                · go_simp
                  refine hK _ _ ?_
                  clear hK K
                  refine wpAnyIn_ready (rs := [0, 5]) (by kernel_rfl) (by simp) ?_
                  refine AllReadyIn.cons rfl (fun K hK => ?_) ?_
                  · go_simp
                    refine hK _ _ ?_
                    clear hK K
                    refine wpAnyIn_ready (rs := [5]) (by kernel_rfl) (by simp) ?_
                    refine AllReadyIn.cons rfl (fun K hK => ?_) ?_
                    · refine step_append_run rfl _ _ 22 rfl _ _ rfl rfl (.slice (some ⟨g, 0, none⟩) (n + 1) cap2) wG hrun ?_
                      refine hK _ _ ?_
                      clear hK K
                      refine wpAnyIn_ready (rs := [6]) (by kernel_rfl) (by simp) ?_
                      refine AllReadyIn.cons rfl (fun K hK => ?_) ?_
                      · go_simp
                        refine ⟨rfl, hR.mono ?_⟩
                        rintro e W4 ⟨bb, rfl, hyp⟩
                        go_simp
                        refine hK _ _ ?_
                        clear hK K
                        refine wpAnyIn_ready (rs := [7]) (by kernel_rfl) (by simp) ?_
                        refine AllReadyIn.cons rfl (fun K hK => ?_) ?_
                        · go_simp
                          refine hK _ _ ?_
                          clear hK K
                          refine wpAnyIn_done (by kernel_rfl) ?_ _
                          exact ⟨(bb, W4), hyp, rfl, by simp [Act.put], rfl⟩
                        exact AllReadyIn.nil
                      exact AllReadyIn.nil
                    exact AllReadyIn.nil
                  refine AllReadyIn.cons rfl (fun K hK => ?_) ?_
                  · refine step_append_run rfl _ _ 22 rfl _ _ rfl rfl (.slice (some ⟨g, 0, none⟩) (n + 1) cap2) wG hrun ?_
                    refine hK _ _ ?_
                    clear hK K
                    refine wpAnyIn_ready (rs := [0]) (by kernel_rfl) (by simp) ?_
                    refine AllReadyIn.cons rfl (fun K hK => ?_) ?_
                    · go_simp
                      refine hK _ _ ?_
                      clear hK K
                      refine wpAnyIn_ready (rs := [6]) (by kernel_rfl) (by simp) ?_
                      refine AllReadyIn.cons rfl (fun K hK => ?_) ?_
                      · go_simp
                        refine ⟨rfl, hR.mono ?_⟩
                        rintro e W4 ⟨bb, rfl, hyp⟩
                        go_simp
                        refine hK _ _ ?_
                        clear hK K
                        refine wpAnyIn_ready (rs := [7]) (by kernel_rfl) (by simp) ?_
                        refine AllReadyIn.cons rfl (fun K hK => ?_) ?_
                        · go_simp
                          refine hK _ _ ?_
                          clear hK K
                          refine wpAnyIn_done (by kernel_rfl) ?_ _
                          exact ⟨(bb, W4), hyp, rfl, by simp [Act.put], rfl⟩
                        exact AllReadyIn.nil
                      exact AllReadyIn.nil
                    exact AllReadyIn.nil
                  exact AllReadyIn.nil
                exact AllReadyIn.nil
              exact AllReadyIn.nil
            refine AllReadyIn.cons rfl (fun K hK => ?_) ?_
            · go_simp
              refine hK _ _ ?_
              clear hK K
              refine wpAnyIn_ready (rs := [0, 2, 4]) (by kernel_rfl) (by simp) ?_
              refine AllReadyIn.cons rfl (fun K hK => ?_) ?_
              · go_simp
                refine hK _ _ ?_
                clear hK K
                refine wpAnyIn_ready (rs := [2, 4]) (by kernel_rfl) (by simp) ?_
                refine AllReadyIn.cons rfl (fun K hK => ?_) ?_
                · go_simp
                  refine ⟨trivial, rfl, (CallsIn.inRound l' (callsIn_wide.2 (CL.out _))).mono ?_⟩
                  rintro e w' ⟨rfl, rfl⟩
                  go_simp
                  refine hK _ _ ?_
                  clear hK K
                  refine wpAnyIn_ready (rs := [4]) (by kernel_rfl) (by simp) ?_
                  refine AllReadyIn.cons rfl (fun K hK => ?_) ?_
                  · go_simp
                    refine hK _ _ ?_
                    clear hK K
                    refine wpAnyIn_ready (rs := [5]) (by kernel_rfl) (by simp) ?_
                    refine AllReadyIn.cons rfl (fun K hK => ?_) ?_
                    · refine step_append_run rfl _ _ 22 rfl _ _ rfl rfl (.slice (some ⟨g, 0, none⟩) (n + 1) cap2) wG hrun ?_
                      refine hK _ _ ?_
                      clear hK K
                      refine wpAnyIn_ready (rs := [6]) (by kernel_rfl) (by simp) ?_
                      refine AllReadyIn.cons rfl (fun K hK => ?_) ?_
                      · go_simp
                        refine ⟨rfl, hR.mono ?_⟩
                        rintro e W4 ⟨bb, rfl, hyp⟩
                        go_simp
                        refine hK _ _ ?_
                        clear hK K
                        refine wpAnyIn_ready (rs := [7]) (by kernel_rfl) (by simp) ?_
                        refine AllReadyIn.cons rfl (fun K hK => ?_) ?_
                        · go_simp
                          refine hK _ _ ?_
                          clear hK K
                          refine wpAnyIn_done (by kernel_rfl) ?_ _
                          exact ⟨(bb, W4), hyp, rfl, by simp [Act.put], rfl⟩
                        exact AllReadyIn.nil
                      exact AllReadyIn.nil
                    exact AllReadyIn.nil
                  exact AllReadyIn.nil
                refine AllReadyIn.cons rfl (fun K hK => ?_) ?_
                · go_simp
                  refine hK _ _ ?_
                  clear hK K
                  refine wpAnyIn_ready (rs := [2]) (by kernel_rfl) (by simp) ?_
                  refine AllReadyIn.cons rfl (fun K hK => ?_) ?_
                  · go_simp
                    refine ⟨trivial, rfl, (CallsIn.inRound l' (callsIn_wide.2 (CL.out _))).mono ?_⟩
                    rintro e w' ⟨rfl, rfl⟩
                    go_simp
                    refine hK _ _ ?_
                    clear hK K
                    refine wpAnyIn_ready (rs := [5]) (by kernel_rfl) (by simp) ?_
                    refine AllReadyIn.cons rfl (fun K hK => ?_) ?_
                    · refine step_append_run rfl _ _ 22 rfl _ _ rfl rfl (.slice (some ⟨g, 0, none⟩) (n + 1) cap2) wG hrun ?_
                      refine hK _ _ ?_
                      clear hK K
                      refine wpAnyIn_ready (rs := [6]) (by kernel_rfl) (by simp) ?_
                      refine AllReadyIn.cons rfl (fun K hK => ?_) ?_
                      · go_simp
                        refine ⟨rfl, hR.mono ?_⟩
                        rintro e W4 ⟨bb, rfl, hyp⟩
                        go_simp
                        refine hK _ _ ?_
                        clear hK K
                        refine wpAnyIn_ready (rs := [7]) (by kernel_rfl) (by simp) ?_
                        refine AllReadyIn.cons rfl (fun K hK => ?_) ?_
                        · go_simp
                          refine hK _ _ ?_
                          clear hK K
                          refine wpAnyIn_done (by kernel_rfl) ?_ _
                          exact ⟨(bb, W4), hyp, rfl, by simp [Act.put], rfl⟩
                        exact AllReadyIn.nil
                      exact AllReadyIn.nil
                    exact AllReadyIn.nil
                  exact AllReadyIn.nil
                exact AllReadyIn.nil
              refine AllReadyIn.cons rfl (fun K hK => ?_) ?_
              · go_simp
                refine ⟨trivial, rfl, (CallsIn.inRound l' (callsIn_wide.2 (CL.out _))).mono ?_⟩
                rintro e w' ⟨rfl, rfl⟩
                go_simp
                refine hK _ _ ?_
                clear hK K
                refine wpAnyIn_ready (rs := [0, 4]) (by kernel_rfl) (by simp) ?_
                refine AllReadyIn.cons rfl (fun K hK => ?_) ?_
                · go_simp
                  refine hK _ _ ?_
                  clear hK K
                  refine wpAnyIn_ready (rs := [4]) (by kernel_rfl) (by simp) ?_
                  refine AllReadyIn.cons rfl (fun K hK => ?_) ?_
                  · go_simp
                    refine hK _ _ ?_
                    clear hK K
                    refine wpAnyIn_ready (rs := [5]) (by kernel_rfl) (by simp) ?_
                    refine AllReadyIn.cons rfl (fun K hK => ?_) ?_
                    · refine step_append_run rfl _ _ 22 rfl _ _ rfl rfl (.slice (some ⟨g, 0, none⟩) (n + 1) cap2) wG hrun ?_
                      refine hK _ _ ?_
                      clear hK K
                      refine wpAnyIn_ready (rs := [6]) (by kernel_rfl) (by simp) ?_
                      refine AllReadyIn.cons rfl (fun K hK => ?_) ?_
                      · go_simp
                        refine ⟨rfl, hR.mono ?_⟩
                        rintro e W4 ⟨bb, rfl, hyp⟩
                        go_simp
                        refine hK _ _ ?_
                        clear hK K
                        refine wpAnyIn_ready (rs := [7]) (by kernel_rfl) (by simp) ?_
                        refine AllReadyIn.cons rfl (fun K hK => ?_) ?_
                        · go_simp
                          refine hK _ _ ?_
                          clear hK K
                          refine wpAnyIn_done (by kernel_rfl) ?_ _
                          exact ⟨(bb, W4), hyp, rfl, by simp [Act.put], rfl⟩
                        exact AllReadyIn.nil
                      exact AllReadyIn.nil
                    exact AllReadyIn.nil
                  exact AllReadyIn.nil
                refine AllReadyIn.cons rfl (fun K hK => ?_) ?_
                · go_simp
                  refine hK _ _ ?_
                  clear hK K
                  refine wpAnyIn_ready (rs := [0, 5]) (by kernel_rfl) (by simp) ?_
                  refine AllReadyIn.cons rfl (fun K hK => ?_) ?_
                  · go_simp
                    refine hK _ _ ?_
                    clear hK K
                    refine wpAnyIn_ready (rs := [5]) (by kernel_rfl) (by simp) ?_
                    refine AllReadyIn.cons rfl (fun K hK => ?_) ?_
                    · refine step_append_run rfl _ _ 22 rfl _ _ rfl rfl (.slice (some ⟨g, 0, none⟩) (n + 1) cap2) wG hrun ?_
                      refine hK _ _ ?_
                      clear hK K
                      refine wpAnyIn_ready (rs := [6]) (by kernel_rfl) (by simp) ?_
                      refine AllReadyIn.cons rfl (fun K hK => ?_) ?_
                      · go_simp
                        refine ⟨rfl, hR.mono ?_⟩
                        rintro e W4 ⟨bb, rfl, hyp⟩
                        go_simp
                        refine hK _ _ ?_
                        clear hK K
                        refine wpAnyIn_ready (rs := [7]) (by kernel_rfl) (by simp) ?_
                        refine AllReadyIn.cons rfl (fun K hK => ?_) ?_
                        · go_simp
                          refine hK _ _ ?_
                          clear hK K
                          refine wpAnyIn_done (by kernel_rfl) ?_ _
                          exact ⟨(bb, W4), hyp, rfl, by simp [Act.put], rfl⟩
                        exact AllReadyIn.nil
                      exact AllReadyIn.nil
                    exact AllReadyIn.nil
                  refine AllReadyIn.cons rfl (fun K hK => ?_) ?_
                  · refine step_append_run rfl _ _ 22 rfl _ _ rfl rfl (.slice (some ⟨g, 0, none⟩) (n + 1) cap2) wG hrun ?_
                    refine hK _ _ ?_
                    clear hK K
                    refine wpAnyIn_ready (rs := [0]) (by kernel_rfl) (by simp) ?_
                    refine AllReadyIn.cons rfl (fun K hK => ?_) ?_
                    · go_simp
                      refine hK _ _ ?_
                      clear hK K
                      refine wpAnyIn_ready (rs := [6]) (by kernel_rfl) (by simp) ?_
                      refine AllReadyIn.cons rfl (fun K hK => ?_) ?_
                      · go_simp
                        refine ⟨rfl, hR.mono ?_⟩
                        rintro e W4 ⟨bb, rfl, hyp⟩
                        go_simp
                        refine hK _ _ ?_
                        clear hK K
                        refine wpAnyIn_ready (rs := [7]) (by kernel_rfl) (by simp) ?_
                        refine AllReadyIn.cons rfl (fun K hK => ?_) ?_
                        · go_simp
                          refine hK _ _ ?_
                          clear hK K
                          refine wpAnyIn_done (by kernel_rfl) ?_ _
                          exact ⟨(bb, W4), hyp, rfl, by simp [Act.put], rfl⟩
                        exact AllReadyIn.nil
                      exact AllReadyIn.nil
                    exact AllReadyIn.nil
                  exact AllReadyIn.nil
                exact AllReadyIn.nil
              refine AllReadyIn.cons rfl (fun K hK => ?_) ?_
              · go_simp
                refine hK _ _ ?_
                clear hK K
                refine wpAnyIn_ready (rs := [0, 2]) (by kernel_rfl) (by simp) ?_
                refine AllReadyIn.cons rfl (fun K hK => ?_) ?_
                · go_simp
                  refine hK _ _ ?_
                  clear hK K
                  refine wpAnyIn_ready (rs := [2]) (by kernel_rfl) (by simp) ?_
                  refine AllReadyIn.cons rfl (fun K hK => ?_) ?_
                  · go_simp
                    refine ⟨trivial, rfl, (CallsIn.inRound l' (callsIn_wide.2 (CL.out _))).mono ?_⟩
                    rintro e w' ⟨rfl, rfl⟩
                    go_simp
                    refine hK _ _ ?_
                    clear hK K
                    refine wpAnyIn_ready (rs := [5]) (by kernel_rfl) (by simp) ?_
                    refine AllReadyIn.cons rfl (fun K hK => ?_) ?_
                    · refine step_append_run rfl _ _ 22 rfl _ _ rfl rfl (.slice (some ⟨g, 0, none⟩) (n + 1) cap2) wG hrun ?_
                      refine hK _ _ ?_
                      clear hK K
                      refine wpAnyIn_ready (rs := [6]) (by kernel_rfl) (by simp) ?_
                      refine AllReadyIn.cons rfl (fun K hK => ?_) ?_
                      · go_simp
                        refine ⟨rfl, hR.mono ?_⟩
                        rintro e W4 ⟨bb, rfl, hyp⟩
                        go_simp
                        refine hK _ _ ?_
                        clear hK K
                        refine wpAnyIn_ready (rs := [7]) (by kernel_rfl) (by simp) ?_
                        refine AllReadyIn.cons rfl (fun K hK => ?_) ?_
                        · go_simp
                          refine hK _ _ ?_
                          clear hK K
                          refine wpAnyIn_done (by kernel_rfl) ?_ _
                          exact ⟨(bb, W4), hyp, rfl, by simp [Act.put], rfl⟩
                        exact AllReadyIn.nil
                      exact AllReadyIn.nil
                    exact AllReadyIn.nil
                  exact AllReadyIn.nil
                refine AllReadyIn.cons rfl (fun K hK => ?_) ?_
                · go_simp
                  refine ⟨trivial, rfl, (CallsIn.inRound l' (callsIn_wide.2 (CL.out _))).mono ?_⟩
                  rintro e w' ⟨rfl, rfl⟩
                  go_simp
                  refine hK _ _ ?_
                  clear hK K
                  refine wpAnyIn_ready (rs := [0, 5]) (by kernel_rfl) (by simp) ?_
                  refine AllReadyIn.cons rfl (fun K hK => ?_) ?_
                  · go_simp
                    refine hK _ _ ?_
                    clear hK K
                    refine wpAnyIn_ready (rs := [5]) (by kernel_rfl) (by simp) ?_
                    refine AllReadyIn.cons rfl (fun K hK => ?_) ?_
                    · refine step_append_run rfl _ _ 22 rfl _ _ rfl rfl (.slice (some ⟨g, 0, none⟩) (n + 1) cap2) wG hrun ?_
                      refine hK _ _ ?_
                      clear hK K
                      refine wpAnyIn_ready (rs := [6]) (by kernel_rfl) (by simp) ?_
                      refine AllReadyIn.cons rfl (fun K hK => ?_) ?_
                      · go_simp
                        refine ⟨rfl, hR.mono ?_⟩
                        rintro e W4 ⟨bb, rfl, hyp⟩
                        go_simp
                        refine hK _ _ ?_
                        clear hK K
                        refine wpAnyIn_ready (rs := [7]) (by kernel_rfl) (by simp) ?_
                        refine AllReadyIn.cons rfl (fun K hK => ?_) ?_
                        · go_simp
                          refine hK _ _ ?_
                          clear hK K
                          refine wpAnyIn_done (by kernel_rfl) ?_ _
                          exact ⟨(bb, W4), hyp, rfl, by simp [Act.put], rfl⟩
                        exact AllReadyIn.nil
                      exact AllReadyIn.nil
                    exact AllReadyIn.nil
                  refine AllReadyIn.cons rfl (fun K hK => ?_) ?_
                  · refine step_append_run rfl _ _ 22 rfl _ _ rfl rfl (.slice (some ⟨g, 0, none⟩) (n + 1) cap2) wG hrun ?_
                    refine hK _ _ ?_
                    clear hK K
                    refine wpAnyIn_ready (rs := [0]) (by kernel_rfl) (by simp) ?_
                    refine AllReadyIn.cons rfl (fun K hK => ?_) ?_
                    · go_simp
                      refine hK _ _ ?_
                      clear hK K
                      refine wpAnyIn_ready (rs := [6]) (by kernel_rfl) (by simp) ?_
                      refine AllReadyIn.cons rfl (fun K hK => ?_) ?_
                      · go_simp
                        refine ⟨rfl, hR.mono ?_⟩
                        rintro e W4 ⟨bb, rfl, hyp⟩
                        go_simp
                        refine hK _ _ ?_
                        clear hK K
                        refine wpAnyIn_ready (rs := [7]) (by kernel_rfl) (by simp) ?_
                        refine AllReadyIn.cons rfl (fun K hK => ?_) ?_
                        · go_simp
                          refine hK _ _ ?_
                          clear hK K
                          refine wpAnyIn_done (by kernel_rfl) ?_ _
                          exact ⟨(bb, W4), hyp, rfl, by simp [Act.put], rfl⟩
                        exact AllReadyIn.nil
                      exact AllReadyIn.nil
                    exact AllReadyIn.nil
                  exact AllReadyIn.nil
                exact AllReadyIn.nil
              exact AllReadyIn.nil
            exact AllReadyIn.nil
          refine AllReadyIn.cons rfl (fun K hK => ?_) ?_
          · go_simp
            refine hK _ _ ?_
            clear hK K
            refine wpAnyIn_ready (rs := [0, 1, 4]) (by kernel_rfl) (by simp) ?_
            refine AllReadyIn.cons rfl (fun K hK => ?_) ?_
            · go_simp
              refine hK _ _ ?_
              clear hK K
              refine wpAnyIn_ready (rs := [1, 4]) (by kernel_rfl) (by simp) ?_
              refine AllReadyIn.cons rfl (fun K hK => ?_) ?_
              · go_simp
                refine hK _ _ ?_
                clear hK K
                refine wpAnyIn_ready (rs := [2, 4]) (by kernel_rfl) (by simp) ?_
                refine AllReadyIn.cons rfl (fun K hK => ?_) ?_
                · go_simp
                  refine ⟨trivial, rfl, (CallsIn.inRound l' (callsIn_wide.2 (CL.out _))).mono ?_⟩
                  rintro e w' ⟨rfl, rfl⟩
                  go_simp
                  refine hK _ _ ?_
                  clear hK K
                  refine wpAnyIn_ready (rs := [4]) (by kernel_rfl) (by simp) ?_
                  refine AllReadyIn.cons rfl (fun K hK => ?_) ?_
                  · go_simp
                    refine hK _ _ ?_
                    clear hK K
                    refine wpAnyIn_ready (rs := [5]) (by kernel_rfl) (by simp) ?_
                    refine AllReadyIn.cons rfl (fun K hK => ?_) ?_
                    · refine step_append_run rfl _ _ 22 rfl _ _ rfl rfl (.slice (some ⟨g, 0, none⟩) (n + 1) cap2) wG hrun ?_
                      refine hK _ _ ?_
                      clear hK K
                      refine wpAnyIn_ready (rs := [6]) (by kernel_rfl) (by simp) ?_
                      refine AllReadyIn.cons rfl (fun K hK => ?_) ?_
                      · go_simp
                        refine ⟨rfl, hR.mono ?_⟩
                        rintro e W4 ⟨bb, rfl, hyp⟩
                        go_simp
                        refine hK _ _ ?_
                        clear hK K
                        refine wpAnyIn_ready (rs := [7]) (by kernel_rfl) (by simp) ?_
                        refine AllReadyIn.cons rfl (fun K hK => ?_) ?_
                        · go_simp
                          refine hK _ _ ?_
                          clear hK K
                          refine wpAnyIn_done (by kernel_rfl) ?_ _
                          exact ⟨(bb, W4), hyp, rfl, by simp [Act.put], rfl⟩
                        exact AllReadyIn.nil
                      exact AllReadyIn.nil
                    exact AllReadyIn.nil
                  exact AllReadyIn.nil
                refine AllReadyIn.cons rfl (fun K hK => ?_) ?_
                · go_simp
                  refine hK _ _ ?_
                  clear hK K
                  refine wpAnyIn_ready (rs := [2]) (by kernel_rfl) (by simp) ?_
                  refine AllReadyIn.cons rfl (fun K hK => ?_) ?_
                  · go_simp
                    refine ⟨trivial, rfl, (CallsIn.inRound l' (callsIn_wide.2 (CL.out _))).mono ?_⟩
                    rintro e w' ⟨rfl, rfl⟩
                    go_simp
                    refine hK _ _ ?_
                    clear hK K
                    refine wpAnyIn_ready (rs := [5]) (by kernel_rfl) (by simp) ?_
                    refine AllReadyIn.cons rfl (fun K hK => ?_) ?_
                    · refine step_append_run rfl _ _ 22 rfl _ _ rfl rfl (.slice (some ⟨g, 0, none⟩) (n + 1) cap2) wG hrun ?_
                      refine hK _ _ ?_
                      clear hK K
                      refine wpAnyIn_ready (rs := [6]) (by kernel_rfl) (by simp) ?_
                      refine AllReadyIn.cons rfl (fun K hK => ?_) ?_
                      · go_simp
                        refine ⟨rfl, hR.mono ?_⟩
                        rintro e W4 ⟨bb, rfl, hyp⟩
                        go_simp
                        refine hK _ _ ?_
                        clear hK K
                        refine wpAnyIn_ready (rs := [7]) (by kernel_rfl) (by simp) ?_
                        refine AllReadyIn.cons rfl (fun K hK => ?_) ?_
                        · go_simp
                          refine hK _ _ ?_
                          clear hK K
                          refine wpAnyIn_done (by kernel_rfl) ?_ _
                          exact ⟨(bb, W4), hyp, rfl, by simp [Act.put], rfl⟩
                        exact AllReadyIn.nil
                      exact AllReadyIn.nil
                    exact AllReadyIn.nil
                  exact AllReadyIn.nil
                exact AllReadyIn.nil
              refine AllReadyIn.cons rfl (fun K hK => ?_) ?_
              · go_simp
                refine hK _ _ ?_
                clear hK K
                refine wpAnyIn_ready (rs := [1]) (by kernel_rfl) (by simp) ?_
                refine AllReadyIn.cons rfl (fun K hK => ?_) ?_
                · go_simp
                  refine hK _ _ ?_
                  clear hK K
                  refine wpAnyIn_ready (rs := [2]) (by kernel_rfl) (by simp) ?_
                  refine AllReadyIn.cons rfl (fun K hK => ?_) ?_
                  · go_simp
                    refine ⟨trivial, rfl, (CallsIn.inRound l' (callsIn_wide.2 (CL.out _))).mono ?_⟩
                    rintro e w' ⟨rfl, rfl⟩
                    go_simp
                    refine hK _ _ ?_
                    clear hK K
                    refine wpAnyIn_ready (rs := [5]) (by kernel_rfl) (by simp) ?_
                    refine AllReadyIn.cons rfl (fun K hK => ?_) ?_
                    · refine step_append_run rfl _ _ 22 rfl _ _ rfl rfl (.slice (some ⟨g, 0, none⟩) (n + 1) cap2) wG hrun ?_
                      refine hK _ _ ?_
                      clear hK K
                      refine wpAnyIn_ready (rs := [6]) (by kernel_rfl) (by simp) ?_
                      refine AllReadyIn.cons rfl (fun K hK => ?_) ?_
                      · go_simp
                        refine ⟨rfl, hR.mono ?_⟩
                        rintro e W4 ⟨bb, rfl, hyp⟩
                        go_simp
                        refine hK _ _ ?_
                        clear hK K
                        refine wpAnyIn_ready (rs := [7]) (by kernel_rfl) (by simp) ?_
                        refine AllReadyIn.cons rfl (fun K hK => ?_) ?_
                        · go_simp
                          refine hK _ _ ?_
                          clear hK K
                          refine wpAnyIn_done (by kernel_rfl) ?_ _
                          exact ⟨(bb, W4), hyp, rfl, by simp [Act.put], rfl⟩
                        exact AllReadyIn.nil
                      exact AllReadyIn.nil
                    exact AllReadyIn.nil
                  exact AllReadyIn.nil
                exact AllReadyIn.nil
              exact AllReadyIn.nil
            refine AllReadyIn.cons rfl (fun K hK => ?_) ?_
            · go_simp
              refine hK _ _ ?_
              clear hK K
              refine wpAnyIn_ready (rs := [0, 2, 4]) (by kernel_rfl) (by simp) ?_
              refine AllReadyIn.cons rfl (fun K hK => ?_) ?_
              · go_simp
                refine hK _ _ ?_
                clear hK K
                refine wpAnyIn_ready (rs := [2, 4]) (by kernel_rfl) (by simp) ?_
                refine AllReadyIn.cons rfl (fun K hK => ?_) ?_
                · go_simp
                  refine ⟨trivial, rfl, (CallsIn.inRound l' (callsIn_wide.2 (CL.out _))).mono ?_⟩
                  rintro e w' ⟨rfl, rfl⟩
                  go_simp
                  refine hK _ _ ?_
                  clear hK K
                  refine wpAnyIn_ready (rs := [4]) (by kernel_rfl) (by simp) ?_
                  refine AllReadyIn.cons rfl (fun K hK => ?_) ?_
                  · go_simp
                    refine hK _ _ ?_
                    clear hK K
                    refine wpAnyIn_ready (rs := [5]) (by kernel_rfl) (by simp) ?_
                    refine AllReadyIn.cons rfl (fun K hK => ?_) ?_
                    · refine step_append_run rfl _ _ 22 rfl _ _ rfl rfl (.slice (some ⟨g, 0, none⟩) (n + 1) cap2) wG hrun ?_
                      refine hK _ _ ?_
                      clear hK K
                      refine wpAnyIn_ready (rs := [6]) (by kernel_rfl) (by simp) ?_
                      refine AllReadyIn.cons rfl (fun K hK => ?_) ?_
                      · go_simp
                        refine ⟨rfl, hR.mono ?_⟩
                        rintro e W4 ⟨bb, rfl, hyp⟩
                        go_simp
                        refine hK _ _ ?_
                        clear hK K
                        refine wpAnyIn_ready (rs := [7]) (by kernel_rfl) (by simp) ?_
                        refine AllReadyIn.cons rfl (fun K hK => ?_) ?_
                        · go_simp
                          refine hK _ _ ?_
                          clear hK K
                          refine wpAnyIn_done (by kernel_rfl) ?_ _
                          exact ⟨(bb, W4), hyp, rfl, by simp [Act.put], rfl⟩
                        exact AllReadyIn.nil
                      exact AllReadyIn.nil
                    exact AllReadyIn.nil
                  exact AllReadyIn.nil
                refine AllReadyIn.cons rfl (fun K hK => ?_) ?_
                · go_simp
                  refine hK _ _ ?_
                  clear hK K
                  refine wpAnyIn_ready (rs := [2]) (by kernel_rfl) (by simp) ?_
                  refine AllReadyIn.cons rfl (fun K hK => ?_) ?_
                  · go_simp
                    refine ⟨trivial, rfl, (CallsIn.inRound l' (callsIn_wide.2 (CL.out _))).mono ?_⟩
                    rintro e w' ⟨rfl, rfl⟩
                    go_simp
                    refine hK _ _ ?_
                    clear hK K
                    refine wpAnyIn_ready (rs := [5]) (by kernel_rfl) (by simp) ?_
                    refine AllReadyIn.cons rfl (fun K hK => ?_) ?_
                    · refine step_append_run rfl _ _ 22 rfl _ _ rfl rfl (.slice (some ⟨g, 0, none⟩) (n + 1) cap2) wG hrun ?_
                      refine hK _ _ ?_
                      clear hK K
                      refine wpAnyIn_ready (rs := [6]) (by kernel_rfl) (by simp) ?_
                      refine AllReadyIn.cons rfl (fun K hK => ?_) ?_
                      · go_simp
                        refine ⟨rfl, hR.mono ?_⟩
                        rintro e W4 ⟨bb, rfl, hyp⟩
                        go_simp
                        refine hK _ _ ?_
                        clear hK K
                        refine wpAnyIn_ready (rs := [7]) (by kernel_rfl) (by simp) ?_
                        refine AllReadyIn.cons rfl (fun K hK => ?_) ?_
                        · go_simp
                          refine hK _ _ ?_
                          clear hK K
                          refine wpAnyIn_done (by kernel_rfl) ?_ _
                          exact ⟨(bb, W4), hyp, rfl, by simp [Act.put], rfl⟩
                        exact AllReadyIn.nil
                      exact AllReadyIn.nil
                    exact AllReadyIn.nil
                  exact AllReadyIn.nil
                exact AllReadyIn.nil
              refine AllReadyIn.cons rfl (fun K hK => ?_) ?_
              · go_simp
                refine ⟨trivial, rfl, (CallsIn.inRound l' (callsIn_wide.2 (CL.out _))).mono ?_⟩
                rintro e w' ⟨rfl, rfl⟩
                go_simp
                refine hK _ _ ?_
                clear hK K
                refine wpAnyIn_ready (rs := [0, 4]) (by kernel_rfl) (by simp) ?_
                refine AllReadyIn.cons rfl (fun K hK => ?_) ?_
                · go_simp
                  refine hK _ _ ?_
                  clear hK K
                  refine wpAnyIn_ready (rs := [4]) (by kernel_rfl) (by simp) ?_
                  refine AllReadyIn.cons rfl (fun K hK => ?_) ?_
                  · go_simp
                    refine hK _ _ ?_
                    clear hK K
                    refine wpAnyIn_ready (rs := [5]) (by kernel_rfl) (by simp) ?_
                    refine AllReadyIn.cons rfl (fun K hK => ?_) ?_
                    · refine step_append_run rfl _ _ 22 rfl _ _ rfl rfl (.slice (some ⟨g, 0, none⟩) (n + 1) cap2) wG hrun ?_
                      refine hK _ _ ?_
                      clear hK K
                      refine wpAnyIn_ready (rs := [6]) (by kernel_rfl) (by simp) ?_
                      refine AllReadyIn.cons rfl (fun K hK => ?_) ?_
                      · go_simp
                        refine ⟨rfl, hR.mono ?_⟩
                        rintro e W4 ⟨bb, rfl, hyp⟩
                        go_simp
                        refine hK _ _ ?_
                        clear hK K
                        refine wpAnyIn_ready (rs := [7]) (by kernel_rfl) (by simp) ?_
                        refine AllReadyIn.cons rfl (fun K hK => ?_) ?_
                        · go_simp
                          refine hK _ _ ?_
                          clear hK K
                          refine wpAnyIn_done (by kernel_rfl) ?_ _
                          exact ⟨(bb, W4), hyp, rfl, by simp [Act.put], rfl⟩
                        exact AllReadyIn.nil
                      exact AllReadyIn.nil
                    exact AllReadyIn.nil
                  exact AllReadyIn.nil
                refine AllReadyIn.cons rfl (fun K hK => ?_) ?_
                · go_simp
                  refine hK _ _ ?_
                  clear hK K
                  refine wpAnyIn_ready (rs := [0, 5]) (by kernel_rfl) (by simp) ?_
                  refine AllReadyIn.cons rfl (fun K hK => ?_) ?_
                  · go_simp
                    refine hK _ _ ?_
                    clear hK K
                    refine wpAnyIn_ready (rs := [5]) (by kernel_rfl) (by simp) ?_
                    refine AllReadyIn.cons rfl (fun K hK => ?_) ?_
                    · refine step_append_run rfl _ _ 22 rfl _ _ rfl rfl (.slice (some ⟨g, 0, none⟩) (n + 1) cap2) wG hrun ?_
                      refine hK _ _ ?_
                      clear hK K
                      refine wpAnyIn_ready (rs := [6]) (by kernel_rfl) (by simp) ?_
                      refine AllReadyIn.cons rfl (fun K hK => ?_) ?_
                      · go_simp
                        refine ⟨rfl, hR.mono ?_⟩
                        rintro e W4 ⟨bb, rfl, hyp⟩
                        go_simp
                        refine hK _ _ ?_
                        clear hK K
                        refine wpAnyIn_ready (rs := [7]) (by kernel_rfl) (by simp) ?_
                        refine AllReadyIn.cons rfl (fun K hK => ?_) ?_
                        · go_simp
                          refine hK _ _ ?_
                          clear hK K
                          refine wpAnyIn_done (by kernel_rfl) ?_ _
                          exact ⟨(bb, W4), hyp, rfl, by simp [Act.put], rfl⟩
                        exact AllReadyIn.nil
                      exact AllReadyIn.nil
                    exact AllReadyIn.nil
                  refine AllReadyIn.cons rfl (fun K hK => ?_) ?_
                  · refine step_append_run rfl _ _ 22 rfl _ _ rfl rfl (.slice (some ⟨g, 0, none⟩) (n + 1) cap2) wG hrun ?_
                    refine hK _ _ ?_
                    clear hK K
                    refine wpAnyIn_ready (rs := [0]) (by kernel_rfl) (by simp) ?_
                    refine AllReadyIn.cons rfl (fun K hK => ?_) ?_
                    · go_simp
                      refine hK _ _ ?_
                      clear hK K
                      refine wpAnyIn_ready (rs := [6]) (by kernel_rfl) (by simp) ?_
                      refine AllReadyIn.cons rfl (fun K hK => ?_) ?_
                      · go_simp
                        refine ⟨rfl, hR.mono ?_⟩
                        rintro e W4 ⟨bb, rfl, hyp⟩
                        go_simp
                        refine hK _ _ ?_
                        clear hK K
                        refine wpAnyIn_ready (rs := [7]) (by kernel_rfl) (by simp) ?_
                        refine AllReadyIn.cons rfl (fun K hK => ?_) ?_
                        · go_simp
                          refine hK _ _ ?_
                          clear hK K
                          refine wpAnyIn_done (by kernel_rfl) ?_ _
                          exact ⟨(bb, W4), hyp, rfl, by simp [Act.put], rfl⟩
                        exact AllReadyIn.nil
                      exact AllReadyIn.nil
                    exact AllReadyIn.nil
                  exact AllReadyIn.nil
                exact AllReadyIn.nil
              refine AllReadyIn.cons rfl (fun K hK => ?_) ?_
              · go_simp
                refine hK _ _ ?_
                clear hK K
                refine wpAnyIn_ready (rs := [0, 2]) (by kernel_rfl) (by simp) ?_
                refine AllReadyIn.cons rfl (fun K hK => ?_) ?_
                · go_simp
                  refine hK _ _ ?_
                  clear hK K
                  refine wpAnyIn_ready (rs := [2]) (by kernel_rfl) (by simp) ?_
                  refine AllReadyIn.cons rfl (fun K hK => ?_) ?_
                  · go_simp
                    refine ⟨trivial, rfl, (CallsIn.inRound l' (callsIn_wide.2 (CL.out _))).mono ?_⟩
                    rintro e w' ⟨rfl, rfl⟩
                    go_simp
                    refine hK _ _ ?_
                    clear hK K
                    refine wpAnyIn_ready (rs := [5]) (by kernel_rfl) (by simp) ?_
                    refine AllReadyIn.cons rfl (fun K hK => ?_) ?_
                    · refine step_append_run rfl _ _ 22 rfl _ _ rfl rfl (.slice (some ⟨g, 0, none⟩) (n + 1) cap2) wG hrun ?_
                      refine hK _ _ ?_
                      clear hK K
                      refine wpAnyIn_ready (rs := [6]) (by kernel_rfl) (by simp) ?_
                      refine AllReadyIn.cons rfl (fun K hK => ?_) ?_
                      · go_simp
                        refine ⟨rfl, hR.mono ?_⟩
                        rintro e W4 ⟨bb, rfl, hyp⟩
                        go_simp
                        refine hK _ _ ?_
                        clear hK K
                        refine wpAnyIn_ready (rs := [7]) (by kernel_rfl) (by simp) ?_
                        refine AllReadyIn.cons rfl (fun K hK => ?_) ?_
                        · go_simp
                          refine hK _ _ ?_
                          clear hK K
                          refine wpAnyIn_done (by kernel_rfl) ?_ _
                          exact ⟨(bb, W4), hyp, rfl, by simp [Act.put], rfl⟩
                        exact AllReadyIn.nil
                      exact AllReadyIn.nil
                    exact AllReadyIn.nil
                  exact AllReadyIn.nil
                refine AllReadyIn.cons rfl (fun K hK => ?_) ?_
                · go_simp
                  refine ⟨trivial, rfl, (CallsIn.inRound l' (callsIn_wide.2 (CL.out _))).mono ?_⟩
                  rintro e w' ⟨rfl, rfl⟩
                  go_simp
                  refine hK _ _ ?_
                  clear hK K
                  refine wpAnyIn_ready (rs := [0, 5]) (by kernel_rfl) (by simp) ?_
                  refine AllReadyIn.cons rfl (fun K hK => ?_) ?_
                  · go_simp
                    refine hK _ _ ?_
                    clear hK K
                    refine wpAnyIn_ready (rs := [5]) (by kernel_rfl) (by simp) ?_
                    refine AllReadyIn.cons rfl (fun K hK => ?_) ?_
                    · refine step_append_run rfl _ _ 22 rfl _ _ rfl rfl (.slice (some ⟨g, 0, none⟩) (n + 1) cap2) wG hrun ?_
                      refine hK _ _ ?_
                      clear hK K
                      refine wpAnyIn_ready (rs := [6]) (by kernel_rfl) (by simp) ?_
                      refine AllReadyIn.cons rfl (fun K hK => ?_) ?_
                      · go_simp
                        refine ⟨rfl, hR.mono ?_⟩
                        rintro e W4 ⟨bb, rfl, hyp⟩
                        go_simp
                        refine hK _ _ ?_
                        clear hK K
                        refine wpAnyIn_ready (rs := [7]) (by kernel_rfl) (by simp) ?_
                        refine AllReadyIn.cons rfl (fun K hK => ?_) ?_
                        · go_simp
                          refine hK _ _ ?_
                          clear hK K
                          refine wpAnyIn_done (by kernel_rfl) ?_ _
                          exact ⟨(bb, W4), hyp, rfl, by simp [Act.put], rfl⟩
                        exact AllReadyIn.nil
                      exact AllReadyIn.nil
                    exact AllReadyIn.nil
                  refine AllReadyIn.cons rfl (fun K hK => ?_) ?_
                  · refine step_append_run rfl _ _ 22 rfl _ _ rfl rfl (.slice (some ⟨g, 0, none⟩) (n + 1) cap2) wG hrun ?_
                    refine hK _ _ ?_
                    clear hK K
                    refine wpAnyIn_ready (rs := [0]) (by kernel_rfl) (by simp) ?_
                    refine AllReadyIn.cons rfl (fun K hK => ?_) ?_
                    · go_simp
                      refine hK _ _ ?_
                      clear hK K
                      refine wpAnyIn_ready (rs := [6]) (by kernel_rfl) (by simp) ?_
                      refine AllReadyIn.cons rfl (fun K hK => ?_) ?_
                      · go_simp
                        refine ⟨rfl, hR.mono ?_⟩
                        rintro e W4 ⟨bb, rfl, hyp⟩
                        go_simp
                        refine hK _ _ ?_
                        clear hK K
                        refine wpAnyIn_ready (rs := [7]) (by kernel_rfl) (by simp) ?_
                        refine AllReadyIn.cons rfl (fun K hK => ?_) ?_
                        · go_simp
                          refine hK _ _ ?_
                          clear hK K
                          refine wpAnyIn_done (by kernel_rfl) ?_ _
                          exact ⟨(bb, W4), hyp, rfl, by simp [Act.put], rfl⟩
                        exact AllReadyIn.nil
                      exact AllReadyIn.nil
                    exact AllReadyIn.nil
                  exact AllReadyIn.nil
                exact AllReadyIn.nil
              exact AllReadyIn.nil
            refine AllReadyIn.cons rfl (fun K hK => ?_) ?_
            · go_simp
              refine hK _ _ ?_
              clear hK K
              refine wpAnyIn_ready (rs := [0, 1]) (by kernel_rfl) (by simp) ?_
              refine AllReadyIn.cons rfl (fun K hK => ?_) ?_
              · go_simp
                refine hK _ _ ?_
                clear hK K
                refine wpAnyIn_ready (rs := [1]) (by kernel_rfl) (by simp) ?_
                refine AllReadyIn.cons rfl (fun K hK => ?_) ?_
                · go_simp
                  refine hK _ _ ?_
                  clear hK K
                  refine wpAnyIn_ready (rs := [2]) (by kernel_rfl) (by simp) ?_
                  refine AllReadyIn.cons rfl (fun K hK => ?_) ?_
                  · go_simp
                    refine ⟨trivial, rfl, (CallsIn.inRound l' (callsIn_wide.2 (CL.out _))).mono ?_⟩
                    rintro e w' ⟨rfl, rfl⟩
                    go_simp
                    refine hK _ _ ?_
                    clear hK K
                    refine wpAnyIn_ready (rs := [5]) (by kernel_rfl) (by simp) ?_
                    refine AllReadyIn.cons rfl (fun K hK => ?_) ?_
                    · refine step_append_run rfl _ _ 22 rfl _ _ rfl rfl (.slice (some ⟨g, 0, none⟩) (n + 1) cap2) wG hrun ?_
                      refine hK _ _ ?_
                      clear hK K
                      refine wpAnyIn_ready (rs := [6]) (by kernel_rfl) (by simp) ?_
                      refine AllReadyIn.cons rfl (fun K hK => ?_) ?_
                      · go_simp
                        refine ⟨rfl, hR.mono ?_⟩
                        rintro e W4 ⟨bb, rfl, hyp⟩
                        go_simp
                        refine hK _ _ ?_
                        clear hK K
                        refine wpAnyIn_ready (rs := [7]) (by kernel_rfl) (by simp) ?_
                        refine AllReadyIn.cons rfl (fun K hK => ?_) ?_
                        · go_simp
                          refine hK _ _ ?_
                          clear hK K
                          refine wpAnyIn_done (by kernel_rfl) ?_ _
                          exact ⟨(bb, W4), hyp, rfl, by simp [Act.put], rfl⟩
                        exact AllReadyIn.nil
                      exact AllReadyIn.nil
                    exact AllReadyIn.nil
                  exact AllReadyIn.nil
                exact AllReadyIn.nil
              refine AllReadyIn.cons rfl (fun K hK => ?_) ?_
              · go_simp
                refine hK _ _ ?_
                clear hK K
                refine wpAnyIn_ready (rs := [0, 2]) (by kernel_rfl) (by simp) ?_
                refine AllReadyIn.cons rfl (fun K hK => ?_) ?_
                · go_simp
                  refine hK _ _ ?_
                  clear hK K
                  refine wpAnyIn_ready (rs := [2]) (by kernel_rfl) (by simp) ?_
                  refine AllReadyIn.cons rfl (fun K hK => ?_) ?_
                  · go_simp
                    refine ⟨trivial, rfl, (CallsIn.inRound l' (callsIn_wide.2 (CL.out _))).mono ?_⟩
                    rintro e w' ⟨rfl, rfl⟩
                    go_simp
                    refine hK _ _ ?_
                    clear hK K
                    refine wpAnyIn_ready (rs := [5]) (by kernel_rfl) (by simp) ?_
                    refine AllReadyIn.cons rfl (fun K hK => ?_) ?_
                    · refine step_append_run rfl _ _ 22 rfl _ _ rfl rfl (.slice (some ⟨g, 0, none⟩) (n + 1) cap2) wG hrun ?_
                      refine hK _ _ ?_
                      clear hK K
                      refine wpAnyIn_ready (rs := [6]) (by kernel_rfl) (by simp) ?_
                      refine AllReadyIn.cons rfl (fun K hK => ?_) ?_
                      · go_simp
                        refine ⟨rfl, hR.mono ?_⟩
                        rintro e W4 ⟨bb, rfl, hyp⟩
                        go_simp
                        refine hK _ _ ?_
                        clear hK K
                        refine wpAnyIn_ready (rs := [7]) (by kernel_rfl) (by simp) ?_
                        refine AllReadyIn.cons rfl (fun K hK => ?_) ?_
                        · go_simp
                          refine hK _ _ ?_
                          clear hK K
                          refine wpAnyIn_done (by kernel_rfl) ?_ _
                          exact ⟨(bb, W4), hyp, rfl, by simp [Act.put], rfl⟩
                        exact AllReadyIn.nil
                      exact AllReadyIn.nil
                    exact AllReadyIn.nil
                  exact AllReadyIn.nil
                refine AllReadyIn.cons rfl (fun K hK => ?_) ?_
                · go_simp
                  refine ⟨trivial, rfl, (CallsIn.inRound l' (callsIn_wide.2 (CL.out _))).mono ?_⟩
                  rintro e w' ⟨rfl, rfl⟩
                  go_simp
                  refine hK _ _ ?_
                  clear hK K
                  refine wpAnyIn_ready (rs := [0, 5]) (by kernel_rfl) (by simp) ?_
                  refine AllReadyIn.cons rfl (fun K hK => ?_) ?_
                  · go_simp
                    refine hK _ _ ?_
                    clear hK K
                    refine wpAnyIn_ready (rs := [5]) (by kernel_rfl) (by simp) ?_
                    refine AllReadyIn.cons rfl (fun K hK => ?_) ?_
                    · refine step_append_run rfl _ _ 22 rfl _ _ rfl rfl (.slice (some ⟨g, 0, none⟩) (n + 1) cap2) wG hrun ?_
                      refine hK _ _ ?_
                      clear hK K
                      refine wpAnyIn_ready (rs := [6]) (by kernel_rfl) (by simp) ?_
                      refine AllReadyIn.cons rfl (fun K hK => ?_) ?_
                      · go_simp
                        refine ⟨rfl, hR.mono ?_⟩
                        rintro e W4 ⟨bb, rfl, hyp⟩
                        go_simp
                        refine hK _ _ ?_
                        clear hK K
                        refine wpAnyIn_ready (rs := [7]) (by kernel_rfl) (by simp) ?_
                        refine AllReadyIn.cons rfl (fun K hK => ?_) ?_
                        · go_simp
                          refine hK _ _ ?_
                          clear hK K
                          refine wpAnyIn_done (by kernel_rfl) ?_ _
                          exact ⟨(bb, W4), hyp, rfl, by simp [Act.put], rfl⟩
                        exact AllReadyIn.nil
                      exact AllReadyIn.nil
                    exact AllReadyIn.nil
                  refine AllReadyIn.cons rfl (fun K hK => ?_) ?_
                  · refine step_append_run rfl _ _ 22 rfl _ _ rfl rfl (.slice (some ⟨g, 0, none⟩) (n + 1) cap2) wG hrun ?_
                    refine hK _ _ ?_
                    clear hK K
                    refine wpAnyIn_ready (rs := [0]) (by kernel_rfl) (by simp) ?_
                    refine AllReadyIn.cons rfl (fun K hK => ?_) ?_
                    · go_simp
                      refine hK _ _ ?_
                      clear hK K
                      refine wpAnyIn_ready (rs := [6]) (by kernel_rfl) (by simp) ?_
                      refine AllReadyIn.cons rfl (fun K hK => ?_) ?_
                      · go_simp
                        refine ⟨rfl, hR.mono ?_⟩
                        rintro e W4 ⟨bb, rfl, hyp⟩
                        go_simp
                        refine hK _ _ ?_
                        clear hK K
                        refine wpAnyIn_ready (rs := [7]) (by kernel_rfl) (by simp) ?_
                        refine AllReadyIn.cons rfl (fun K hK => ?_) ?_
                        · go_simp
                          refine hK _ _ ?_
                          clear hK K
                          refine wpAnyIn_done (by kernel_rfl) ?_ _
                          exact ⟨(bb, W4), hyp, rfl, by simp [Act.put], rfl⟩
                        exact AllReadyIn.nil
                      exact AllReadyIn.nil
                    exact AllReadyIn.nil
                  exact AllReadyIn.nil
                exact AllReadyIn.nil
              exact AllReadyIn.nil
            exact AllReadyIn.nil
          exact AllReadyIn.nil
        · rintro ⟨bb, W4⟩ hyp
          cases bb
          · have S4 := Lib.hid (STOP.out W4 hyp)
            clear hyp hrun hy hR cY cY2 cY3 hst hO
            rename_i K1 a1 K2 a2
            refine a2 _ _ ?_
            simp [Act.put]
            gi_wp2_with fail
            exact S4.out
          · have N4 := Lib.hid (NEXT.out W4 hyp)
            clear hyp hrun hy hR cY cY2 cY3 hst hO
            rename_i K1 a1 K2 a2
            refine a2 _ _ ?_
            simp [Act.put]
            gi_wp2_with fail
            go_roundw
            case rel => exact N4.out
            case measure => (simp [intOf]; try omega)
      · have fin : rdPost (fun k => BackR (B + 2) (some ⟨b, off, none⟩) k ∨ O k) O (IdxI J zs n l Bx (some ⟨b, off, none⟩) cap B) (IdxX Jx) (pre ++ [st]) W2 .normal { tmps := #[], defers := [] } wr := by
          refine ⟨hrd, X', ?_, hX', HO.out, hsz', hyB, hlB, hBC⟩
          rw [flatN_append, flatN_one, HX.out, show x.toNat = i by omega]
          exact hj
        have F := Lib.hid fin
        clear fin hj hX' hsz' hyB hlB hBC hE hrd
        gi_wp2_with fail
        exact F.out
end Go.Proofs.Ytapelgjnnccfoaa

