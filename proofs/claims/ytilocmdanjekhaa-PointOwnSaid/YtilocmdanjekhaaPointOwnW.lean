/-
  The walk of the statement PointOwn.
-/
import Derived.Test.YtilocmdanjekhaaBackedN
namespace Go.Proofs.Ytilocmdanjekhaa
open Go.RowKit
set_option linter.unusedVariables false
set_option linter.unusedSimpArgs false

set_option maxRecDepth 100000 in
set_option maxHeartbeats 16000000 in
theorem pointOwn_core (kind k : Int) (a : Option Addr) (len cap : Nat) (ts : List TV) (G : TV) (w : World) (hk1 : -9223372036854775808 ≤ k) (hk2 : k ≤ 9223372036854775807) (hI0 : GsAt w a len ts) (hG0 : G.At w) (hr0 : len ≤ 2932031007317) (hn0 : a = none → len = 0 ∧ cap = 0) (hN0 : ∀ t ∈ ts, t.Nil) :
    Calls Try.prog 5 #[.agg #[.int .i64 kind, .int .i64 k, .slice a len cap, .slice G.sa G.sl G.sc, .slice G.ca G.cl G.cc]] w fun e w' => e = .returned (.bool true) ∧ Below w.heap.size w w' := by
  obtain ⟨wA, hwA, J, zA, n1⟩ := backed_box w (.int .i64 kind) (.int .i64 k) (.slice a len cap) (.slice G.sa G.sl G.sc) (.slice G.ca G.cl G.cc)
  have hI := Lib.hid (hI0.kept zA.out)
  have hG := Lib.hid (hG0.kept zA.out)
  have hr := Lib.hid hr0
  have hn := Lib.hid hn0
  have hN := Lib.hid hN0
  clear hI0 hG0 hr0 hn0 hN0
  go_enter Try.func5, Try.ntmps5
  go_upto_region 1 with (fail)
  rw [hwA.out]
  go_cut [24] from 15 to 24 (fun s wx => s = .bool (!smallG (ts ++ [G])) ∧ Hid (Below wA.heap.size wA wx))
  case first =>
    have SK := Lib.hid (fun w' (hb : Below wA.heap.size wA w') => (⟨(J.out.kept hb).see.2.2.1, (J.out.kept hb).see.2.2.2.1, (J.out.kept hb).see.2.2.2.2⟩ : w'.cell? ⟨w.heap.size, 2, none⟩ = some (.slice a len cap) ∧ w'.cell? ⟨w.heap.size, 3, none⟩ = some (.slice G.sa G.sl G.sc) ∧ w'.cell? ⟨w.heap.size, 4, none⟩ = some (.slice G.ca G.cl G.cc)))
    obtain ⟨wD, hD⟩ : ∃ wD, wA.drew = wD := ⟨_, rfl⟩
    have bwD := Lib.hid (show Below wA.heap.size wA wD by rw [← hD]; exact (Below.refl _ _).drew)
    refine wp_region_held_drew (S := fun w' => w'.cell? ⟨w.heap.size, 2, none⟩ = some (.slice a len cap) ∧ w'.cell? ⟨w.heap.size, 3, none⟩ = some (.slice G.sa G.sl G.sc) ∧ w'.cell? ⟨w.heap.size, 4, none⟩ = some (.slice G.ca G.cl G.cc)) (by kernel_rfl) (by rw [hD]; exact SK.out wD bwD.out) (fun hHeld => ?_)
    rw [hD] at hHeld ⊢
    clear hD
    refine held_take 1 (.pointer (some ⟨w.heap.size, 2, none⟩)) rfl (by kernel_rfl) (by kernel_rfl) (by kernel_rfl) (fun _ _ _ h => h) (by rfl) (by intro w' hS; go_simp) (by assumption) ?_
    try simp only [Act.put, List.setIfInBounds_toArray, List.set_cons_zero, List.set_cons_succ]
    refine held_take 2 (.slice a len cap) rfl (by kernel_rfl) (by kernel_rfl) (by kernel_rfl) (fun _ _ _ h => h) (by rfl) (by intro w' hS; go_simp) (by assumption) ?_
    try simp only [Act.put, List.setIfInBounds_toArray, List.set_cons_zero, List.set_cons_succ]
    refine held_take 4 (.pointer (some ⟨w.heap.size, 3, none⟩)) rfl (by kernel_rfl) (by kernel_rfl) (by kernel_rfl) (fun _ _ _ h => h) (by rfl) (by intro w' hS; go_simp) (by assumption) ?_
    try simp only [Act.put, List.setIfInBounds_toArray, List.set_cons_zero, List.set_cons_succ]
    refine held_take 5 (.agg #[.slice G.sa G.sl G.sc, .slice G.ca G.cl G.cc]) rfl (by kernel_rfl) (by kernel_rfl) (by kernel_rfl) (fun _ _ _ h => h) (by rfl) (by intro w' hS; go_simp) (by assumption) ?_
    try simp only [Act.put, List.setIfInBounds_toArray, List.set_cons_zero, List.set_cons_succ]
    refine held_two 0 6 (by kernel_rfl) rfl rfl (by rfl) (by rfl) (fun K hK => ?_) (fun K hK => ?_)
    · go_simp
      obtain ⟨x1, hx1⟩ : ∃ y, wD.alloc (.cells #[] 30) = y := ⟨_, rfl⟩
      have cx1 := Lib.hid (show Below wD.heap.size wD x1 by rw [← hx1]; exact (Below.refl _ _).alloc (Nat.le_refl _) _)
      have oE := Lib.hid (show x1.ownsRow wA.heap.size 30 2 (.slice (some ⟨wD.heap.size, 0, none⟩) 0 0) 0 (gcells []) by rw [← hx1]; exact Joins.ownsRow_le (World.ownsRow_made wD #[] 0 (Nat.le_refl _) (Nat.zero_le _) rfl) bwD.out.size)
      have bx1 := Lib.hid (bwD.out.trans (cx1.out.mono bwD.out.size))
      rw [hx1]
      refine hK.out _ _ (SK.out x1 bx1.out) (fun hHeld => ?_)
      try simp only [Act.put, List.setIfInBounds_toArray, List.set_cons_zero, List.set_cons_succ]
      refine held_two 3 6 (by kernel_rfl) rfl rfl (by rfl) (by rfl) (fun K hK => ?_) (fun K hK => ?_)
      · have oEx := Lib.hid (oE.out)
        refine wp_append_gs _ _ rfl wA.heap.size _ 0 [] rfl oEx.out a len cap ts rfl (hI.out.kept bx1.out) hn.out (by have := hr.out; omega) bx1.out.size ?_
        intro v3 x2 o3 g3
        have cx2 := Lib.hid ((Below.refl wA.heap.size x1).grown g3 bx1.out.size (fun q hq => (oEx.out.lt q hq).1))
        have bx2 := Lib.hid (bx1.out.trans cx2.out)
        have o3' := Lib.hid o3
        have g3' := Lib.hid g3
        clear o3 g3
        refine hK.out _ _ (SK.out x2 bx2.out) (fun hHeld => ?_)
        try simp only [Act.put, List.setIfInBounds_toArray, List.set_cons_zero, List.set_cons_succ]
        refine held_call 6 (by kernel_rfl) rfl (by rfl) (fun K hK => ?_)
        go_simp
        obtain ⟨x3, hx3, gG, cx3⟩ := gs_made1 x2 G (hG.out.kept bx2.out)
        have bx3 := Lib.hid (bx2.out.trans (cx3.out.mono bx2.out.size))
        have hx3' := hx3.out
        try rw [hx3']
        clear hx3'
        refine hK.out _ _ (SK.out x3 bx3.out) (fun hHeld => ?_)
        try simp only [Act.put, List.setIfInBounds_toArray, List.set_cons_zero, List.set_cons_succ]
        have o3x := Lib.hid (row_kept o3'.out cx3.out)
        have gGx := Lib.hid (gG.out)
        refine held_call 7 (by kernel_rfl) rfl (by rfl) (fun K hK => ?_)
        refine wp_append_gs _ _ rfl wA.heap.size v3 (0 + len) ([] ++ ts) rfl o3x.out _ 1 1 [G] rfl gGx.out (fun e => by cases e) (by have := hr.out; omega) bx3.out.size ?_
        intro v7 x8 o7 g7
        rw [Nat.zero_add, List.nil_append] at o7
        have c8 := Lib.hid ((Below.refl wA.heap.size x3).grown g7 bx3.out.size (fun q hq => (o3x.out.lt q hq).1))
        have b8 := Lib.hid (bx3.out.trans c8.out)
        obtain ⟨g8, cap8, rfl⟩ := Joins.ownsRow_form o7 (by omega)
        have o7' := Lib.hid (gsat_of2 o7 (by have := hr.out; omega) (fun t ht => by
          rcases List.mem_append.1 ht with ht | ht
          · exact (hI.out.2.2.1 t ht).kept b8.out
          · rw [List.mem_singleton] at ht; subst ht; exact hG.out.kept b8.out))
        clear o7 g7
        refine hK.out _ _ (SK.out x8 b8.out) (fun hHeld => ?_)
        try simp only [Act.put, List.setIfInBounds_toArray, List.set_cons_zero, List.set_cons_succ]
        refine held_call 8 (by kernel_rfl) rfl (by rfl) (fun K hK => ?_)
        go_simp
        refine (small_any _ _ _ _ x8 o7'.out).mono ?_
        rintro e x9 ⟨rfl, c9⟩
        have b9 := Lib.hid (b8.out.trans (c9.mono b8.out.size))
        go_wp2_with fail
        refine hK.out _ _ (SK.out x9 b9.out) (fun hHeld => ?_)
        try simp only [Act.put, List.setIfInBounds_toArray, List.set_cons_zero, List.set_cons_succ]
        refine held_take 9 (.bool (!smallG (ts ++ [G]))) rfl (by kernel_rfl) (by kernel_rfl) (by kernel_rfl) (fun _ _ _ h => h) (by rfl) (by intro w' hS; go_simp) (by assumption) ?_
        try simp only [Act.put, List.setIfInBounds_toArray, List.set_cons_zero, List.set_cons_succ]
        refine wpAnyH_done (by kernel_rfl) ?_ _
        go_wp2_with fail
        go_meet
        case rel => exact ⟨rfl, b9⟩
      · go_simp
        obtain ⟨x2, hx2, gG, cx2⟩ := gs_made1 x1 G (hG.out.kept bx1.out)
        have bx2 := Lib.hid (bx1.out.trans (cx2.out.mono bx1.out.size))
        have hx2' := hx2.out
        try rw [hx2']
        clear hx2'
        refine hK.out _ _ (SK.out x2 bx2.out) (fun hHeld => ?_)
        try simp only [Act.put, List.setIfInBounds_toArray, List.set_cons_zero, List.set_cons_succ]
        refine held_call 3 (by kernel_rfl) rfl (by rfl) (fun K hK => ?_)
        have oEx := Lib.hid (row_kept oE.out cx2.out)
        refine wp_append_gs _ _ rfl wA.heap.size _ 0 [] rfl oEx.out a len cap ts rfl (hI.out.kept bx2.out) hn.out (by have := hr.out; omega) bx2.out.size ?_
        intro v3 x3 o3 g3
        have cx3 := Lib.hid ((Below.refl wA.heap.size x2).grown g3 bx2.out.size (fun q hq => (oEx.out.lt q hq).1))
        have bx3 := Lib.hid (bx2.out.trans cx3.out)
        have o3' := Lib.hid o3
        have g3' := Lib.hid g3
        clear o3 g3
        refine hK.out _ _ (SK.out x3 bx3.out) (fun hHeld => ?_)
        try simp only [Act.put, List.setIfInBounds_toArray, List.set_cons_zero, List.set_cons_succ]
        have o3x := Lib.hid (o3'.out)
        have gGx := Lib.hid (gs1_over gG.out (g3'.out.block _ (gs1_lt gG.out) (fun e => by have e' : x1.heap.size = wD.heap.size := Option.some.inj e; have := (oE.out.lt wD.heap.size rfl).2; omega)) (hG.out.kept bx3.out))
        refine held_call 7 (by kernel_rfl) rfl (by rfl) (fun K hK => ?_)
        refine wp_append_gs _ _ rfl wA.heap.size v3 (0 + len) ([] ++ ts) rfl o3x.out _ 1 1 [G] rfl gGx.out (fun e => by cases e) (by have := hr.out; omega) bx3.out.size ?_
        intro v7 x8 o7 g7
        rw [Nat.zero_add, List.nil_append] at o7
        have c8 := Lib.hid ((Below.refl wA.heap.size x3).grown g7 bx3.out.size (fun q hq => (o3x.out.lt q hq).1))
        have b8 := Lib.hid (bx3.out.trans c8.out)
        obtain ⟨g8, cap8, rfl⟩ := Joins.ownsRow_form o7 (by omega)
        have o7' := Lib.hid (gsat_of2 o7 (by have := hr.out; omega) (fun t ht => by
          rcases List.mem_append.1 ht with ht | ht
          · exact (hI.out.2.2.1 t ht).kept b8.out
          · rw [List.mem_singleton] at ht; subst ht; exact hG.out.kept b8.out))
        clear o7 g7
        refine hK.out _ _ (SK.out x8 b8.out) (fun hHeld => ?_)
        try simp only [Act.put, List.setIfInBounds_toArray, List.set_cons_zero, List.set_cons_succ]
        refine held_call 8 (by kernel_rfl) rfl (by rfl) (fun K hK => ?_)
        go_simp
        refine (small_any _ _ _ _ x8 o7'.out).mono ?_
        rintro e x9 ⟨rfl, c9⟩
        have b9 := Lib.hid (b8.out.trans (c9.mono b8.out.size))
        go_wp2_with fail
        refine hK.out _ _ (SK.out x9 b9.out) (fun hHeld => ?_)
        try simp only [Act.put, List.setIfInBounds_toArray, List.set_cons_zero, List.set_cons_succ]
        refine held_take 9 (.bool (!smallG (ts ++ [G]))) rfl (by kernel_rfl) (by kernel_rfl) (by kernel_rfl) (fun _ _ _ h => h) (by rfl) (by intro w' hS; go_simp) (by assumption) ?_
        try simp only [Act.put, List.setIfInBounds_toArray, List.set_cons_zero, List.set_cons_succ]
        refine wpAnyH_done (by kernel_rfl) ?_ _
        go_wp2_with fail
        go_meet
        case rel => exact ⟨rfl, b9⟩
    · go_simp
      obtain ⟨x1, hx1, gG, cx1⟩ := gs_made1 wD G (hG.out.kept bwD.out)
      have bx1 := Lib.hid (bwD.out.trans (cx1.out.mono bwD.out.size))
      have hx1' := hx1.out
      try rw [hx1']
      clear hx1'
      refine hK.out _ _ (SK.out x1 bx1.out) (fun hHeld => ?_)
      try simp only [Act.put, List.setIfInBounds_toArray, List.set_cons_zero, List.set_cons_succ]
      refine held_call 0 (by kernel_rfl) rfl (by rfl) (fun K hK => ?_)
      go_simp
      obtain ⟨x2, hx2⟩ : ∃ y, x1.alloc (.cells #[] 30) = y := ⟨_, rfl⟩
      have cx2 := Lib.hid (show Below x1.heap.size x1 x2 by rw [← hx2]; exact (Below.refl _ _).alloc (Nat.le_refl _) _)
      have oE := Lib.hid (show x2.ownsRow wA.heap.size 30 2 (.slice (some ⟨x1.heap.size, 0, none⟩) 0 0) 0 (gcells []) by rw [← hx2]; exact Joins.ownsRow_le (World.ownsRow_made x1 #[] 0 (Nat.le_refl _) (Nat.zero_le _) rfl) bx1.out.size)
      have bx2 := Lib.hid (bx1.out.trans (cx2.out.mono bx1.out.size))
      rw [hx2]
      refine hK.out _ _ (SK.out x2 bx2.out) (fun hHeld => ?_)
      try simp only [Act.put, List.setIfInBounds_toArray, List.set_cons_zero, List.set_cons_succ]
      refine held_call 3 (by kernel_rfl) rfl (by rfl) (fun K hK => ?_)
      have oEx := Lib.hid (oE.out)
      refine wp_append_gs _ _ rfl wA.heap.size _ 0 [] rfl oEx.out a len cap ts rfl (hI.out.kept bx2.out) hn.out (by have := hr.out; omega) bx2.out.size ?_
      intro v3 x3 o3 g3
      have cx3 := Lib.hid ((Below.refl wA.heap.size x2).grown g3 bx2.out.size (fun q hq => (oEx.out.lt q hq).1))
      have bx3 := Lib.hid (bx2.out.trans cx3.out)
      have o3' := Lib.hid o3
      have g3' := Lib.hid g3
      clear o3 g3
      refine hK.out _ _ (SK.out x3 bx3.out) (fun hHeld => ?_)
      try simp only [Act.put, List.setIfInBounds_toArray, List.set_cons_zero, List.set_cons_succ]
      have o3x := Lib.hid (o3'.out)
      have gGx := Lib.hid (gs1_over (gG.out.kept cx2.out) (g3'.out.block _ (Nat.lt_of_lt_of_le (gs1_lt gG.out) cx2.out.size) (fun e => by have e' : wD.heap.size = x1.heap.size := Option.some.inj e; have := gs1_lt gG.out; omega)) (hG.out.kept bx3.out))
      refine held_call 7 (by kernel_rfl) rfl (by rfl) (fun K hK => ?_)
      refine wp_append_gs _ _ rfl wA.heap.size v3 (0 + len) ([] ++ ts) rfl o3x.out _ 1 1 [G] rfl gGx.out (fun e => by cases e) (by have := hr.out; omega) bx3.out.size ?_
      intro v7 x8 o7 g7
      rw [Nat.zero_add, List.nil_append] at o7
      have c8 := Lib.hid ((Below.refl wA.heap.size x3).grown g7 bx3.out.size (fun q hq => (o3x.out.lt q hq).1))
      have b8 := Lib.hid (bx3.out.trans c8.out)
      obtain ⟨g8, cap8, rfl⟩ := Joins.ownsRow_form o7 (by omega)
      have o7' := Lib.hid (gsat_of2 o7 (by have := hr.out; omega) (fun t ht => by
        rcases List.mem_append.1 ht with ht | ht
        · exact (hI.out.2.2.1 t ht).kept b8.out
        · rw [List.mem_singleton] at ht; subst ht; exact hG.out.kept b8.out))
      clear o7 g7
      refine hK.out _ _ (SK.out x8 b8.out) (fun hHeld => ?_)
      try simp only [Act.put, List.setIfInBounds_toArray, List.set_cons_zero, List.set_cons_succ]
      refine held_call 8 (by kernel_rfl) rfl (by rfl) (fun K hK => ?_)
      go_simp
      refine (small_any _ _ _ _ x8 o7'.out).mono ?_
      rintro e x9 ⟨rfl, c9⟩
      have b9 := Lib.hid (b8.out.trans (c9.mono b8.out.size))
      go_wp2_with fail
      refine hK.out _ _ (SK.out x9 b9.out) (fun hHeld => ?_)
      try simp only [Act.put, List.setIfInBounds_toArray, List.set_cons_zero, List.set_cons_succ]
      refine held_take 9 (.bool (!smallG (ts ++ [G]))) rfl (by kernel_rfl) (by kernel_rfl) (by kernel_rfl) (fun _ _ _ h => h) (by rfl) (by intro w' hS; go_simp) (by assumption) ?_
      try simp only [Act.put, List.setIfInBounds_toArray, List.set_cons_zero, List.set_cons_succ]
      refine wpAnyH_done (by kernel_rfl) ?_ _
      go_wp2_with fail
      go_meet
      case rel => exact ⟨rfl, b9⟩
  case rest =>
    obtain ⟨rfl, bc⟩ := hcut
    cases hs : smallG (ts ++ [G])
    · simp only [hs, Bool.not_false]
      go_wp2_with fail
      refine (awake05_any _).mono ?_
      rintro e w9 ⟨rfl, hb9⟩
      go_wp2_with fail
      go_ret
      exact ⟨rfl, zA.out.trans ((bc.out.trans (hb9.mono bc.out.size)).mono zA.out.size)⟩
    simp only [hs, Bool.not_true]
    have hwt : wts (ts ++ [G]) ≤ 800 := of_decide_eq_true hs
    have hGw := wts_mem (ts := ts ++ [G]) (t := G) (by simp)
    have hGl : G.cl ≤ 800 := by omega
    have hl8 : len ≤ 800 := by
      have := wts_len (ts ++ [G])
      rw [List.length_append, hI.out.1] at this
      omega
    have hts8 := Lib.hid (fun t (ht : t ∈ ts) => (show t.sl ≤ 800 ∧ t.cl ≤ 800 by
      have := wts_mem (ts := ts ++ [G]) (t := t) (List.mem_append_left _ ht)
      omega))
    clear hs hwt hGw
    obtain ⟨j0, j1, j2, j3, j4⟩ := (J.out.kept bc.out).see
    go_wp2_with fail
    clear j0 j1 j2 j3 j4
    go_loopw [3, 29] (fun s3 i wr => ∃ (j : Nat) (v : Value), j ≤ len ∧ i = .int .i64 j ∧ v = s3 ∧ Hid (WasOK wc ts j v wr) ∧ Hid (Below wc.heap.size wc wr)) (fun _ i _ => len - (intOf i).toNat)
    case atStart => exact ⟨0, _, Nat.zero_le _, rfl, rfl, Lib.hid (was_none wc ts), Lib.hid (Below.refl _ _)⟩
    case round =>
      obtain ⟨j, v, hj, rfl, rfl, hwas, hbr⟩ := hrel
      have br := Lib.hid (bc.out.trans (hbr.out.mono bc.out.size))
      by_cases hlt : j < len
      · obtain ⟨t, b, off, ht, rfl, c0, c1, hAt⟩ := (hI.out.kept br.out).at hlt
        have ts8 := Lib.hid (hts8.out t (List.mem_of_getElem? ht))
        have tn := Lib.hid (hN.out t (List.mem_of_getElem? ht))
        have tt := Lib.hid ht
        obtain ⟨wB, hwB, JB, cB, nB⟩ := grid_box wr (.slice t.sa t.sl t.sc) (.slice t.ca t.cl t.cc)
        have tA := Lib.hid (hAt.kept cB.out)
        obtain ⟨ws, w1, w2, w3, w4, w5⟩ := hwas.out
        have w1' := Lib.hid w1
        have w2' := Lib.hid w2
        have w3' := Lib.hid w3
        have w4' := Lib.hid w4
        have w5' := Lib.hid w5
        have hwcr := Lib.hid hbr.out.size
        clear w1 w2 w3 w4 w5 hwas ht hAt
        go_upto_region 7 with (fail)
        rw [hwB.out]
        clear c0 c1
        have SK := Lib.hid (fun w' (hb : Below wB.heap.size wB w') => (⟨(JB.out.kept hb).see.1, (JB.out.kept hb).see.2.1⟩ : w'.cell? ⟨wr.heap.size, 0, none⟩ = some (.slice t.sa t.sl t.sc) ∧ w'.cell? ⟨wr.heap.size, 1, none⟩ = some (.slice t.ca t.cl t.cc)))
        obtain ⟨wD, hD⟩ : ∃ wD, wB.drew = wD := ⟨_, rfl⟩
        have bwD := Lib.hid (show Below wB.heap.size wB wD by rw [← hD]; exact (Below.refl _ _).drew)
        refine wp_region_held_drew (S := fun w' => w'.cell? ⟨wr.heap.size, 0, none⟩ = some (.slice t.sa t.sl t.sc) ∧ w'.cell? ⟨wr.heap.size, 1, none⟩ = some (.slice t.ca t.cl t.cc)) (by kernel_rfl) (by rw [hD]; exact SK.out wD bwD.out) (fun hHeld => ?_)
        rw [hD] at hHeld ⊢
        clear hD
        refine held_take 0 (v) rfl (by kernel_rfl) (by kernel_rfl) (by kernel_rfl) (fun _ _ _ h => h) (by rfl) (by intro w' hS; go_simp) (by assumption) ?_
        try simp only [Act.put, List.setIfInBounds_toArray, List.set_cons_zero, List.set_cons_succ]
        refine held_take 2 (.pointer (some ⟨wr.heap.size, 0, none⟩)) rfl (by kernel_rfl) (by kernel_rfl) (by kernel_rfl) (fun _ _ _ h => h) (by rfl) (by intro w' hS; go_simp) (by assumption) ?_
        try simp only [Act.put, List.setIfInBounds_toArray, List.set_cons_zero, List.set_cons_succ]
        refine held_take 3 (.slice t.sa t.sl t.sc) rfl (by kernel_rfl) (by kernel_rfl) (by kernel_rfl) (fun _ _ _ h => h) (by rfl) (by intro w' hS; go_simp) (by assumption) ?_
        try simp only [Act.put, List.setIfInBounds_toArray, List.set_cons_zero, List.set_cons_succ]
        refine held_take 6 (.pointer (some ⟨wr.heap.size, 1, none⟩)) rfl (by kernel_rfl) (by kernel_rfl) (by kernel_rfl) (fun _ _ _ h => h) (by rfl) (by intro w' hS; go_simp) (by assumption) ?_
        try simp only [Act.put, List.setIfInBounds_toArray, List.set_cons_zero, List.set_cons_succ]
        refine held_take 7 (.slice t.ca t.cl t.cc) rfl (by kernel_rfl) (by kernel_rfl) (by kernel_rfl) (fun _ _ _ h => h) (by rfl) (by intro w' hS; go_simp) (by assumption) ?_
        try simp only [Act.put, List.setIfInBounds_toArray, List.set_cons_zero, List.set_cons_succ]
        refine held_two 1 5 (by kernel_rfl) rfl rfl (by rfl) (by rfl) (fun K hK => ?_) (fun K hK => ?_)
        · go_simp
          obtain ⟨x1, hx1⟩ : ∃ y, wD.alloc (.cells #[] 3) = y := ⟨_, rfl⟩
          have cx1 := Lib.hid (show Below wD.heap.size wD x1 by rw [← hx1]; exact (Below.refl _ _).alloc (Nat.le_refl _) _)
          have nx1 := Lib.hid (show x1.heap.size = wD.heap.size + 1 by rw [← hx1]; simp)
          have oES := Lib.hid (show x1.ownsRow wB.heap.size 3 1 (.slice (some ⟨wD.heap.size, 0, none⟩) 0 0) 0 (([] : List Int).map (Value.int .i64)) by rw [← hx1]; exact Joins.ownsRow_le (World.ownsRow_made wD #[] 0 (Nat.le_refl _) (Nat.zero_le _) rfl) bwD.out.size)
          have bx1 := Lib.hid (bwD.out.trans (cx1.out.mono bwD.out.size))
          rw [hx1]
          clear hx1
          refine hK.out _ _ (SK.out x1 bx1.out) (fun hHeld => ?_)
          try simp only [Act.put, List.setIfInBounds_toArray, List.set_cons_zero, List.set_cons_succ]
          refine held_two 4 5 (by kernel_rfl) rfl rfl (by rfl) (by rfl) (fun K hK => ?_) (fun K hK => ?_)
          · refine wp_append_ints _ _ 27 3 rfl Try.underlying27 (by kernel_rfl) wB.heap.size _ 0 [] rfl oES.out t.sa t.sl t.sc t.ss rfl ((tA.out.kept bx1.out).1) tn.out.1 (by have := ts8.out; omega) bx1.out.size ?_
            intro vS x2 oS gS lS
            have nx2 := Lib.hid (show x1.heap.size ≤ x2.heap.size from gS.size)
            have ltS : ∀ q, vS.ownBlock = some q → q < x2.heap.size := fun q hq => (oS.lt q hq).2
            have hbS : ∀ q, vS.ownBlock = some q → q = wD.heap.size ∨ q = x1.heap.size := fun q hq => by
              rcases lS with e | e <;> rw [e] at hq
              · exact .inl (Option.some.inj hq).symm
              · exact .inr (Option.some.inj hq).symm
            have bx2 := Lib.hid (bx1.out.trans ((Below.refl wB.heap.size x1).grown gS bx1.out.size (fun q hq => (oES.out.lt q hq).1)))
            have oS' := Lib.hid oS
            have gS' := Lib.hid gS
            clear oS gS lS
            refine hK.out _ _ (SK.out x2 bx2.out) (fun hHeld => ?_)
            try simp only [Act.put, List.setIfInBounds_toArray, List.set_cons_zero, List.set_cons_succ]
            refine held_call 5 (by kernel_rfl) rfl (by rfl) (fun K hK => ?_)
            go_simp
            obtain ⟨x3, hx3⟩ : ∃ y, x2.alloc (.cells #[] 22) = y := ⟨_, rfl⟩
            have cx3 := Lib.hid (show Below x2.heap.size x2 x3 by rw [← hx3]; exact (Below.refl _ _).alloc (Nat.le_refl _) _)
            have nx3 := Lib.hid (show x3.heap.size = x2.heap.size + 1 by rw [← hx3]; simp)
            have oEC := Lib.hid (show x3.ownsRow wB.heap.size 22 1 (.slice (some ⟨x2.heap.size, 0, none⟩) 0 0) 0 (([] : List Int).map (Value.int .i64)) by rw [← hx3]; exact Joins.ownsRow_le (World.ownsRow_made x2 #[] 0 (Nat.le_refl _) (Nat.zero_le _) rfl) bx2.out.size)
            have bx3 := Lib.hid (bx2.out.trans (cx3.out.mono bx2.out.size))
            rw [hx3]
            clear hx3
            refine hK.out _ _ (SK.out x3 bx3.out) (fun hHeld => ?_)
            try simp only [Act.put, List.setIfInBounds_toArray, List.set_cons_zero, List.set_cons_succ]
            replace oS' := Lib.hid (row_kept oS'.out cx3.out)
            refine held_call 8 (by kernel_rfl) rfl (by rfl) (fun K hK => ?_)
            refine wp_append_ints _ _ 28 22 rfl Try.underlying28 (by kernel_rfl) wB.heap.size _ 0 [] rfl oEC.out t.ca t.cl t.cc t.cs rfl ((tA.out.kept bx3.out).2.1) tn.out.2 (by have := ts8.out; omega) bx3.out.size ?_
            intro vC x4 oC gC lC
            have nx4 := Lib.hid (show x3.heap.size ≤ x4.heap.size from gC.size)
            have ltC : ∀ q, vC.ownBlock = some q → q < x4.heap.size := fun q hq => (oC.lt q hq).2
            have hbC : ∀ q, vC.ownBlock = some q → q = x2.heap.size ∨ q = x3.heap.size := fun q hq => by
              rcases lC with e | e <;> rw [e] at hq
              · exact .inl (Option.some.inj hq).symm
              · exact .inr (Option.some.inj hq).symm
            have bx4 := Lib.hid (bx3.out.trans ((Below.refl wB.heap.size x3).grown gC bx3.out.size (fun q hq => (oEC.out.lt q hq).1)))
            have oC' := Lib.hid oC
            have gC' := Lib.hid gC
            clear oC gC lC
            refine hK.out _ _ (SK.out x4 bx4.out) (fun hHeld => ?_)
            try simp only [Act.put, List.setIfInBounds_toArray, List.set_cons_zero, List.set_cons_succ]
            replace oS' := Lib.hid (grown_row oS'.out gC'.out (fun q hq e => by have e1 := hbS q hq; have e3 := ltS q hq; have e2 : q = x2.heap.size := Option.some.inj e; have := nx1.out; have := nx2.out; have := nx3.out; omega))
            obtain ⟨AS, kS, rfl⟩ := row_form oS'.out
            obtain ⟨AC, kC, rfl⟩ := row_form oC'.out
            have oS2 := oS'.out
            have oC2 := oC'.out
            rw [Nat.zero_add, List.nil_append] at oS2 oC2
            rw [Nat.zero_add, Nat.zero_add]
            try simp only [Act.put, List.setIfInBounds_toArray, List.set_cons_zero, List.set_cons_succ]
            refine held_take 9 (.agg #[.slice AS t.sl kS, .slice AC t.cl kC]) rfl (by kernel_rfl) (by kernel_rfl) (by kernel_rfl) (fun _ _ _ h => h) (by rfl) (by intro w' hS; go_simp) (by assumption) ?_
            try simp only [Act.put, List.setIfInBounds_toArray, List.set_cons_zero, List.set_cons_succ]
            have hO := Lib.hid (show OwnV x4 wr.heap.size ⟨AS, t.sl, kS, t.ss, AC, t.cl, kC, t.cs⟩ from ⟨Joins.ownsRow_le oS2 cB.out.size, Joins.ownsRow_le oC2 cB.out.size⟩)
            have hA := Lib.hid (show TV.At ⟨AS, t.sl, kS, t.ss, AC, t.cl, kC, t.cs⟩ x4 from ⟨row_ints oS2 (show t.sl ≤ 9223372036854775807 by have := ts8.out; omega) tA.out.1.2.2.1, row_ints oC2 (show t.cl ≤ 9223372036854775807 by have := ts8.out; omega) tA.out.2.1.2.2.1, by have := ts8.out; show t.sl ≤ 17592186044416; omega, by have := ts8.out; show t.cl ≤ 17592186044416; omega⟩)
            clear oS2 oC2
            refine held_call 10 (by kernel_rfl) rfl (by rfl) (fun K hK => ?_)
            go_simp
            obtain ⟨x5, hx5, gG, cx5⟩ := gs_made1 x4 ⟨AS, t.sl, kS, t.ss, AC, t.cl, kC, t.cs⟩ hA.out
            have bx5 := Lib.hid (bx4.out.trans (cx5.out.mono bx4.out.size))
            have hx5' := hx5.out
            try rw [hx5']
            clear hx5'
            refine hK.out _ _ (SK.out x5 bx5.out) (fun hHeld => ?_)
            try simp only [Act.put, List.setIfInBounds_toArray, List.set_cons_zero, List.set_cons_succ]
            refine held_call 11 (by kernel_rfl) rfl (by rfl) (fun K hK => ?_)
            have zx := Lib.hid (cB.out.trans (bx5.out.mono cB.out.size))
            refine wp_append_gs_at _ _ rfl wc.heap.size v j ws rfl (row_kept w3'.out zx.out) _ 1 1 [_] rfl gG.out (fun e => by cases e) (by omega) (by have := hwcr.out; have := zx.out.size; omega) ?_
            intro v7 x6 o7 g7 l7
            have R := Lib.hid (was_add w1'.out w2'.out w3'.out w4'.out w5'.out hwcr.out zx.out (hO.out.kept cx5.out) tt.out ⟨rfl, rfl, rfl, rfl⟩ o7 g7 l7)
            have q6 := Lib.hid (hbr.out.trans ((zx.out.mono hwcr.out).grown g7 (by have := hwcr.out; have := zx.out.size; omega) (fun q hq => (w3'.out.lt q hq).1)))
            have J6 : GAt x6 wr.heap.size (.slice t.sa t.sl t.sc) (.slice t.ca t.cl t.cc) := (g7.block _ (by have := nB.out; have := bx5.out.size; omega) (fun e => by have := (w3'.out.lt _ e.symm).2; omega)).trans (JB.out.kept bx5.out)
            clear o7 g7 l7
            refine hK.out _ _ ⟨J6.see.1, J6.see.2.1⟩ (fun hHeld => ?_)
            clear J6
            try simp only [Act.put, List.setIfInBounds_toArray, List.set_cons_zero, List.set_cons_succ]
            refine held_take 12 (v7) rfl (by kernel_rfl) (by kernel_rfl) (by kernel_rfl) (fun _ _ _ h => h) (by rfl) (by intro w' hS; go_simp) (by assumption) ?_
            try simp only [Act.put, List.setIfInBounds_toArray, List.set_cons_zero, List.set_cons_succ]
            refine wpAnyH_done (by kernel_rfl) ?_ _
            go_wp2_with fail
            go_roundw
            case rel => exact ⟨j + 1, _, by omega, by go_num, rfl, R, q6⟩
            case measure => (simp [intOf]; try omega)
          · go_simp
            obtain ⟨x2, hx2⟩ : ∃ y, x1.alloc (.cells #[] 22) = y := ⟨_, rfl⟩
            have cx2 := Lib.hid (show Below x1.heap.size x1 x2 by rw [← hx2]; exact (Below.refl _ _).alloc (Nat.le_refl _) _)
            have nx2 := Lib.hid (show x2.heap.size = x1.heap.size + 1 by rw [← hx2]; simp)
            have oEC := Lib.hid (show x2.ownsRow wB.heap.size 22 1 (.slice (some ⟨x1.heap.size, 0, none⟩) 0 0) 0 (([] : List Int).map (Value.int .i64)) by rw [← hx2]; exact Joins.ownsRow_le (World.ownsRow_made x1 #[] 0 (Nat.le_refl _) (Nat.zero_le _) rfl) bx1.out.size)
            have bx2 := Lib.hid (bx1.out.trans (cx2.out.mono bx1.out.size))
            rw [hx2]
            clear hx2
            refine hK.out _ _ (SK.out x2 bx2.out) (fun hHeld => ?_)
            try simp only [Act.put, List.setIfInBounds_toArray, List.set_cons_zero, List.set_cons_succ]
            replace oES := Lib.hid (row_kept oES.out cx2.out)
            refine held_call 4 (by kernel_rfl) rfl (by rfl) (fun K hK => ?_)
            refine wp_append_ints _ _ 27 3 rfl Try.underlying27 (by kernel_rfl) wB.heap.size _ 0 [] rfl oES.out t.sa t.sl t.sc t.ss rfl ((tA.out.kept bx2.out).1) tn.out.1 (by have := ts8.out; omega) bx2.out.size ?_
            intro vS x3 oS gS lS
            have nx3 := Lib.hid (show x2.heap.size ≤ x3.heap.size from gS.size)
            have ltS : ∀ q, vS.ownBlock = some q → q < x3.heap.size := fun q hq => (oS.lt q hq).2
            have hbS : ∀ q, vS.ownBlock = some q → q = wD.heap.size ∨ q = x2.heap.size := fun q hq => by
              rcases lS with e | e <;> rw [e] at hq
              · exact .inl (Option.some.inj hq).symm
              · exact .inr (Option.some.inj hq).symm
            have bx3 := Lib.hid (bx2.out.trans ((Below.refl wB.heap.size x2).grown gS bx2.out.size (fun q hq => (oES.out.lt q hq).1)))
            have oS' := Lib.hid oS
            have gS' := Lib.hid gS
            clear oS gS lS
            refine hK.out _ _ (SK.out x3 bx3.out) (fun hHeld => ?_)
            try simp only [Act.put, List.setIfInBounds_toArray, List.set_cons_zero, List.set_cons_succ]
            replace oEC := Lib.hid (grown_row oEC.out gS'.out (fun q hq e => by have e1 : x1.heap.size = q := Option.some.inj hq; have e2 : q = wD.heap.size := Option.some.inj e; have := nx1.out; omega))
            refine held_call 8 (by kernel_rfl) rfl (by rfl) (fun K hK => ?_)
            refine wp_append_ints _ _ 28 22 rfl Try.underlying28 (by kernel_rfl) wB.heap.size _ 0 [] rfl oEC.out t.ca t.cl t.cc t.cs rfl ((tA.out.kept bx3.out).2.1) tn.out.2 (by have := ts8.out; omega) bx3.out.size ?_
            intro vC x4 oC gC lC
            have nx4 := Lib.hid (show x3.heap.size ≤ x4.heap.size from gC.size)
            have ltC : ∀ q, vC.ownBlock = some q → q < x4.heap.size := fun q hq => (oC.lt q hq).2
            have hbC : ∀ q, vC.ownBlock = some q → q = x1.heap.size ∨ q = x3.heap.size := fun q hq => by
              rcases lC with e | e <;> rw [e] at hq
              · exact .inl (Option.some.inj hq).symm
              · exact .inr (Option.some.inj hq).symm
            have bx4 := Lib.hid (bx3.out.trans ((Below.refl wB.heap.size x3).grown gC bx3.out.size (fun q hq => (oEC.out.lt q hq).1)))
            have oC' := Lib.hid oC
            have gC' := Lib.hid gC
            clear oC gC lC
            refine hK.out _ _ (SK.out x4 bx4.out) (fun hHeld => ?_)
            try simp only [Act.put, List.setIfInBounds_toArray, List.set_cons_zero, List.set_cons_succ]
            replace oS' := Lib.hid (grown_row oS'.out gC'.out (fun q hq e => by have e1 := hbS q hq; have e3 := ltS q hq; have e2 : q = x1.heap.size := Option.some.inj e; have := nx1.out; have := nx2.out; have := nx3.out; omega))
            obtain ⟨AS, kS, rfl⟩ := row_form oS'.out
            obtain ⟨AC, kC, rfl⟩ := row_form oC'.out
            have oS2 := oS'.out
            have oC2 := oC'.out
            rw [Nat.zero_add, List.nil_append] at oS2 oC2
            rw [Nat.zero_add, Nat.zero_add]
            try simp only [Act.put, List.setIfInBounds_toArray, List.set_cons_zero, List.set_cons_succ]
            refine held_take 9 (.agg #[.slice AS t.sl kS, .slice AC t.cl kC]) rfl (by kernel_rfl) (by kernel_rfl) (by kernel_rfl) (fun _ _ _ h => h) (by rfl) (by intro w' hS; go_simp) (by assumption) ?_
            try simp only [Act.put, List.setIfInBounds_toArray, List.set_cons_zero, List.set_cons_succ]
            have hO := Lib.hid (show OwnV x4 wr.heap.size ⟨AS, t.sl, kS, t.ss, AC, t.cl, kC, t.cs⟩ from ⟨Joins.ownsRow_le oS2 cB.out.size, Joins.ownsRow_le oC2 cB.out.size⟩)
            have hA := Lib.hid (show TV.At ⟨AS, t.sl, kS, t.ss, AC, t.cl, kC, t.cs⟩ x4 from ⟨row_ints oS2 (show t.sl ≤ 9223372036854775807 by have := ts8.out; omega) tA.out.1.2.2.1, row_ints oC2 (show t.cl ≤ 9223372036854775807 by have := ts8.out; omega) tA.out.2.1.2.2.1, by have := ts8.out; show t.sl ≤ 17592186044416; omega, by have := ts8.out; show t.cl ≤ 17592186044416; omega⟩)
            clear oS2 oC2
            refine held_call 10 (by kernel_rfl) rfl (by rfl) (fun K hK => ?_)
            go_simp
            obtain ⟨x5, hx5, gG, cx5⟩ := gs_made1 x4 ⟨AS, t.sl, kS, t.ss, AC, t.cl, kC, t.cs⟩ hA.out
            have bx5 := Lib.hid (bx4.out.trans (cx5.out.mono bx4.out.size))
            have hx5' := hx5.out
            try rw [hx5']
            clear hx5'
            refine hK.out _ _ (SK.out x5 bx5.out) (fun hHeld => ?_)
            try simp only [Act.put, List.setIfInBounds_toArray, List.set_cons_zero, List.set_cons_succ]
            refine held_call 11 (by kernel_rfl) rfl (by rfl) (fun K hK => ?_)
            have zx := Lib.hid (cB.out.trans (bx5.out.mono cB.out.size))
            refine wp_append_gs_at _ _ rfl wc.heap.size v j ws rfl (row_kept w3'.out zx.out) _ 1 1 [_] rfl gG.out (fun e => by cases e) (by omega) (by have := hwcr.out; have := zx.out.size; omega) ?_
            intro v7 x6 o7 g7 l7
            have R := Lib.hid (was_add w1'.out w2'.out w3'.out w4'.out w5'.out hwcr.out zx.out (hO.out.kept cx5.out) tt.out ⟨rfl, rfl, rfl, rfl⟩ o7 g7 l7)
            have q6 := Lib.hid (hbr.out.trans ((zx.out.mono hwcr.out).grown g7 (by have := hwcr.out; have := zx.out.size; omega) (fun q hq => (w3'.out.lt q hq).1)))
            have J6 : GAt x6 wr.heap.size (.slice t.sa t.sl t.sc) (.slice t.ca t.cl t.cc) := (g7.block _ (by have := nB.out; have := bx5.out.size; omega) (fun e => by have := (w3'.out.lt _ e.symm).2; omega)).trans (JB.out.kept bx5.out)
            clear o7 g7 l7
            refine hK.out _ _ ⟨J6.see.1, J6.see.2.1⟩ (fun hHeld => ?_)
            clear J6
            try simp only [Act.put, List.setIfInBounds_toArray, List.set_cons_zero, List.set_cons_succ]
            refine held_take 12 (v7) rfl (by kernel_rfl) (by kernel_rfl) (by kernel_rfl) (fun _ _ _ h => h) (by rfl) (by intro w' hS; go_simp) (by assumption) ?_
            try simp only [Act.put, List.setIfInBounds_toArray, List.set_cons_zero, List.set_cons_succ]
            refine wpAnyH_done (by kernel_rfl) ?_ _
            go_wp2_with fail
            go_roundw
            case rel => exact ⟨j + 1, _, by omega, by go_num, rfl, R, q6⟩
            case measure => (simp [intOf]; try omega)
        · go_simp
          obtain ⟨x1, hx1⟩ : ∃ y, wD.alloc (.cells #[] 22) = y := ⟨_, rfl⟩
          have cx1 := Lib.hid (show Below wD.heap.size wD x1 by rw [← hx1]; exact (Below.refl _ _).alloc (Nat.le_refl _) _)
          have nx1 := Lib.hid (show x1.heap.size = wD.heap.size + 1 by rw [← hx1]; simp)
          have oEC := Lib.hid (show x1.ownsRow wB.heap.size 22 1 (.slice (some ⟨wD.heap.size, 0, none⟩) 0 0) 0 (([] : List Int).map (Value.int .i64)) by rw [← hx1]; exact Joins.ownsRow_le (World.ownsRow_made wD #[] 0 (Nat.le_refl _) (Nat.zero_le _) rfl) bwD.out.size)
          have bx1 := Lib.hid (bwD.out.trans (cx1.out.mono bwD.out.size))
          rw [hx1]
          clear hx1
          refine hK.out _ _ (SK.out x1 bx1.out) (fun hHeld => ?_)
          try simp only [Act.put, List.setIfInBounds_toArray, List.set_cons_zero, List.set_cons_succ]
          refine held_call 1 (by kernel_rfl) rfl (by rfl) (fun K hK => ?_)
          go_simp
          obtain ⟨x2, hx2⟩ : ∃ y, x1.alloc (.cells #[] 3) = y := ⟨_, rfl⟩
          have cx2 := Lib.hid (show Below x1.heap.size x1 x2 by rw [← hx2]; exact (Below.refl _ _).alloc (Nat.le_refl _) _)
          have nx2 := Lib.hid (show x2.heap.size = x1.heap.size + 1 by rw [← hx2]; simp)
          have oES := Lib.hid (show x2.ownsRow wB.heap.size 3 1 (.slice (some ⟨x1.heap.size, 0, none⟩) 0 0) 0 (([] : List Int).map (Value.int .i64)) by rw [← hx2]; exact Joins.ownsRow_le (World.ownsRow_made x1 #[] 0 (Nat.le_refl _) (Nat.zero_le _) rfl) bx1.out.size)
          have bx2 := Lib.hid (bx1.out.trans (cx2.out.mono bx1.out.size))
          rw [hx2]
          clear hx2
          refine hK.out _ _ (SK.out x2 bx2.out) (fun hHeld => ?_)
          try simp only [Act.put, List.setIfInBounds_toArray, List.set_cons_zero, List.set_cons_succ]
          replace oEC := Lib.hid (row_kept oEC.out cx2.out)
          refine held_call 4 (by kernel_rfl) rfl (by rfl) (fun K hK => ?_)
          refine wp_append_ints _ _ 27 3 rfl Try.underlying27 (by kernel_rfl) wB.heap.size _ 0 [] rfl oES.out t.sa t.sl t.sc t.ss rfl ((tA.out.kept bx2.out).1) tn.out.1 (by have := ts8.out; omega) bx2.out.size ?_
          intro vS x3 oS gS lS
          have nx3 := Lib.hid (show x2.heap.size ≤ x3.heap.size from gS.size)
          have ltS : ∀ q, vS.ownBlock = some q → q < x3.heap.size := fun q hq => (oS.lt q hq).2
          have hbS : ∀ q, vS.ownBlock = some q → q = x1.heap.size ∨ q = x2.heap.size := fun q hq => by
            rcases lS with e | e <;> rw [e] at hq
            · exact .inl (Option.some.inj hq).symm
            · exact .inr (Option.some.inj hq).symm
          have bx3 := Lib.hid (bx2.out.trans ((Below.refl wB.heap.size x2).grown gS bx2.out.size (fun q hq => (oES.out.lt q hq).1)))
          have oS' := Lib.hid oS
          have gS' := Lib.hid gS
          clear oS gS lS
          refine hK.out _ _ (SK.out x3 bx3.out) (fun hHeld => ?_)
          try simp only [Act.put, List.setIfInBounds_toArray, List.set_cons_zero, List.set_cons_succ]
          replace oEC := Lib.hid (grown_row oEC.out gS'.out (fun q hq e => by have e1 : wD.heap.size = q := Option.some.inj hq; have e2 : q = x1.heap.size := Option.some.inj e; have := nx1.out; omega))
          refine held_call 8 (by kernel_rfl) rfl (by rfl) (fun K hK => ?_)
          refine wp_append_ints _ _ 28 22 rfl Try.underlying28 (by kernel_rfl) wB.heap.size _ 0 [] rfl oEC.out t.ca t.cl t.cc t.cs rfl ((tA.out.kept bx3.out).2.1) tn.out.2 (by have := ts8.out; omega) bx3.out.size ?_
          intro vC x4 oC gC lC
          have nx4 := Lib.hid (show x3.heap.size ≤ x4.heap.size from gC.size)
          have ltC : ∀ q, vC.ownBlock = some q → q < x4.heap.size := fun q hq => (oC.lt q hq).2
          have hbC : ∀ q, vC.ownBlock = some q → q = wD.heap.size ∨ q = x3.heap.size := fun q hq => by
            rcases lC with e | e <;> rw [e] at hq
            · exact .inl (Option.some.inj hq).symm
            · exact .inr (Option.some.inj hq).symm
          have bx4 := Lib.hid (bx3.out.trans ((Below.refl wB.heap.size x3).grown gC bx3.out.size (fun q hq => (oEC.out.lt q hq).1)))
          have oC' := Lib.hid oC
          have gC' := Lib.hid gC
          clear oC gC lC
          refine hK.out _ _ (SK.out x4 bx4.out) (fun hHeld => ?_)
          try simp only [Act.put, List.setIfInBounds_toArray, List.set_cons_zero, List.set_cons_succ]
          replace oS' := Lib.hid (grown_row oS'.out gC'.out (fun q hq e => by have e1 := hbS q hq; have e3 := ltS q hq; have e2 : q = wD.heap.size := Option.some.inj e; have := nx1.out; have := nx2.out; have := nx3.out; omega))
          obtain ⟨AS, kS, rfl⟩ := row_form oS'.out
          obtain ⟨AC, kC, rfl⟩ := row_form oC'.out
          have oS2 := oS'.out
          have oC2 := oC'.out
          rw [Nat.zero_add, List.nil_append] at oS2 oC2
          rw [Nat.zero_add, Nat.zero_add]
          try simp only [Act.put, List.setIfInBounds_toArray, List.set_cons_zero, List.set_cons_succ]
          refine held_take 9 (.agg #[.slice AS t.sl kS, .slice AC t.cl kC]) rfl (by kernel_rfl) (by kernel_rfl) (by kernel_rfl) (fun _ _ _ h => h) (by rfl) (by intro w' hS; go_simp) (by assumption) ?_
          try simp only [Act.put, List.setIfInBounds_toArray, List.set_cons_zero, List.set_cons_succ]
          have hO := Lib.hid (show OwnV x4 wr.heap.size ⟨AS, t.sl, kS, t.ss, AC, t.cl, kC, t.cs⟩ from ⟨Joins.ownsRow_le oS2 cB.out.size, Joins.ownsRow_le oC2 cB.out.size⟩)
          have hA := Lib.hid (show TV.At ⟨AS, t.sl, kS, t.ss, AC, t.cl, kC, t.cs⟩ x4 from ⟨row_ints oS2 (show t.sl ≤ 9223372036854775807 by have := ts8.out; omega) tA.out.1.2.2.1, row_ints oC2 (show t.cl ≤ 9223372036854775807 by have := ts8.out; omega) tA.out.2.1.2.2.1, by have := ts8.out; show t.sl ≤ 17592186044416; omega, by have := ts8.out; show t.cl ≤ 17592186044416; omega⟩)
          clear oS2 oC2
          refine held_call 10 (by kernel_rfl) rfl (by rfl) (fun K hK => ?_)
          go_simp
          obtain ⟨x5, hx5, gG, cx5⟩ := gs_made1 x4 ⟨AS, t.sl, kS, t.ss, AC, t.cl, kC, t.cs⟩ hA.out
          have bx5 := Lib.hid (bx4.out.trans (cx5.out.mono bx4.out.size))
          have hx5' := hx5.out
          try rw [hx5']
          clear hx5'
          refine hK.out _ _ (SK.out x5 bx5.out) (fun hHeld => ?_)
          try simp only [Act.put, List.setIfInBounds_toArray, List.set_cons_zero, List.set_cons_succ]
          refine held_call 11 (by kernel_rfl) rfl (by rfl) (fun K hK => ?_)
          have zx := Lib.hid (cB.out.trans (bx5.out.mono cB.out.size))
          refine wp_append_gs_at _ _ rfl wc.heap.size v j ws rfl (row_kept w3'.out zx.out) _ 1 1 [_] rfl gG.out (fun e => by cases e) (by omega) (by have := hwcr.out; have := zx.out.size; omega) ?_
          intro v7 x6 o7 g7 l7
          have R := Lib.hid (was_add w1'.out w2'.out w3'.out w4'.out w5'.out hwcr.out zx.out (hO.out.kept cx5.out) tt.out ⟨rfl, rfl, rfl, rfl⟩ o7 g7 l7)
          have q6 := Lib.hid (hbr.out.trans ((zx.out.mono hwcr.out).grown g7 (by have := hwcr.out; have := zx.out.size; omega) (fun q hq => (w3'.out.lt q hq).1)))
          have J6 : GAt x6 wr.heap.size (.slice t.sa t.sl t.sc) (.slice t.ca t.cl t.cc) := (g7.block _ (by have := nB.out; have := bx5.out.size; omega) (fun e => by have := (w3'.out.lt _ e.symm).2; omega)).trans (JB.out.kept bx5.out)
          clear o7 g7 l7
          refine hK.out _ _ ⟨J6.see.1, J6.see.2.1⟩ (fun hHeld => ?_)
          clear J6
          try simp only [Act.put, List.setIfInBounds_toArray, List.set_cons_zero, List.set_cons_succ]
          refine held_take 12 (v7) rfl (by kernel_rfl) (by kernel_rfl) (by kernel_rfl) (fun _ _ _ h => h) (by rfl) (by intro w' hS; go_simp) (by assumption) ?_
          try simp only [Act.put, List.setIfInBounds_toArray, List.set_cons_zero, List.set_cons_succ]
          refine wpAnyH_done (by kernel_rfl) ?_ _
          go_wp2_with fail
          go_roundw
          case rel => exact ⟨j + 1, _, by omega, by go_num, rfl, R, q6⟩
          case measure => (simp [intOf]; try omega)
      · obtain rfl : len = j := by omega
        obtain ⟨W1, hW1⟩ : ∃ W1, wr = W1 := ⟨_, rfl⟩
        rw [hW1] at hwas br hbr ⊢
        clear hW1
        obtain ⟨ws, q1, q2, q3, q4, -⟩ := hwas.out
        obtain ⟨Aw, cw, rfl⟩ := row_form q3
        have hwsAt : ∀ u ∈ ws, u.At W1 := by
          intro u hu
          obtain ⟨p, hp⟩ := List.getElem?_of_mem hu
          have hpl : p < ws.length := (List.getElem?_eq_some_iff.1 hp).1
          obtain ⟨t, ht⟩ : ∃ t, ts[p]? = some t := ⟨_, List.getElem?_eq_getElem (by rw [hI.out.1]; omega)⟩
          obtain ⟨e1, e2, e3, e4⟩ := q2 p t u ht hp
          have hA := hI.out.2.2.1 t (List.mem_of_getElem? ht)
          exact (q4 u hu).at (by rw [e1]; exact hA.1.2.2.1) (by rw [e2]; exact hA.2.1.2.2.1) (by rw [e3]; exact hA.2.2.1) (by rw [e4]; exact hA.2.2.2)
        have q1' := Lib.hid q1
        have q2' := Lib.hid q2
        have q3' := Lib.hid q3
        have hws := Lib.hid hwsAt
        clear q1 q2 q3 q4 hwas hwsAt hbr hn hN hr
        obtain ⟨j0, j1, j2, j3, j4⟩ := (J.out.kept br.out).see
        go_wp2_with fail
        refine (pgo_res kind k a len cap ts W1 (hI.out.kept br.out) (fun t ht => by have := (hts8.out t ht).2; omega) hk1 hk2).mono ?_
        rintro e w2 ⟨A, n, c, A', n', c', x, rfl, hrow, hn', hb2⟩
        have hform := Lib.hid (fun h => hrow.form h)
        obtain ⟨w3, hw3, JB, x3, n3⟩ := grid_box w2 (.slice A n c) (.slice A' n' c')
        have hrow3 := Lib.hid (hrow.kept x3.out)
        have b3 := Lib.hid (hb2.trans (x3.out.mono hb2.size))
        have ba3 := Lib.hid (br.out.trans (b3.out.mono br.out.size))
        clear j0 j1 j2 j3 j4 hrow hb2
        go_upto_region 10 with (fail)
        rw [hw3.out]
        obtain ⟨j0, j1, j2, j3, j4⟩ := (J.out.kept ba3.out).see
        go_wp2_with fail
        refine (pback_res kind k G a len cap ts w3 (hI.out.kept ba3.out) (hG.out.kept ba3.out) (by omega) hk1 hk2).mono ?_
        rintro e w4 ⟨A4, n4, us, x4, rfl, hn4, hL, hb4⟩
        have JB4 := Lib.hid (JB.out.kept hb4)
        have hrow4 := Lib.hid (hrow3.out.kept hb4)
        have b4 := Lib.hid (b3.out.trans (hb4.mono b3.out.size))
        have hL' := Lib.hid hL
        have n3' := Lib.hid n3.out
        obtain ⟨l0, l1, -, -⟩ := JB4.out.see
        clear j0 j1 j2 j3 j4 hb4 hL n3 JB hrow3 x3
        go_wp2_with fail
        clear l0 l1
        go_loopw [71] (fun i wr => ∃ j : Nat, j ≤ n' ∧ i = .int .i64 j ∧ Hid (IntRow wr W1.heap.size (.slice A' n' c') n') ∧ Hid (GAt wr w2.heap.size (.slice A n c) (.slice A' n' c')) ∧ Hid (n4 = 0 ∨ ∃ M, A4 = some ⟨M, 0, none⟩ ∧ w3.heap.size ≤ M ∧ LOK M n4 us wr) ∧ Hid (Below W1.heap.size W1 wr)) (fun i _ => n' - (intOf i).toNat)
        case atStart => exact ⟨0, Nat.zero_le _, rfl, hrow4, JB4, hL', b4⟩
        case round =>
          obtain ⟨j, hj, rfl, hir, hjb, hl, hbw⟩ := hrel
          by_cases hlt : j < n'
          · obtain ⟨g, rfl, g1, g2⟩ := hform.out (by omega)
            obtain ⟨z, hz, hf⟩ := hir.out.cell hlt
            obtain ⟨l0, l1, -, -⟩ := hjb.out.see
            have R1 := Lib.hid (hir.out.store g j (wrap64 (z + 1)))
            have R2 := Lib.hid (hjb.out.other (p := ⟨g, j, none⟩) (.int .i64 (wrap64 (z + 1))) (by simp; omega))
            have R3 := Lib.hid (show n4 = 0 ∨ ∃ M, A4 = some ⟨M, 0, none⟩ ∧ w3.heap.size ≤ M ∧ LOK M n4 us (wr.setCell ⟨g, j, none⟩ (.int .i64 (wrap64 (z + 1)))) from hl.out.imp id (fun ⟨M, e, hM, h⟩ => ⟨M, e, hM, h.other (by have := n3'.out; omega) j _⟩))
            have R4 := Lib.hid (hbw.out.setCell (p := ⟨g, j, none⟩) g1 (.int .i64 (wrap64 (z + 1))))
            clear hir hjb hl
            go_wp2_with fail
            go_roundw
            case rel => exact ⟨j + 1, by omega, by go_num, R1, R2, R3, R4⟩
            case measure => (simp [intOf]; try omega)
          · obtain rfl : n' = j := by omega
            obtain ⟨l0, l1, -, -⟩ := hjb.out.see
            clear hir hjb
            go_wp2_with fail
            clear l0 l1
            go_loopw [84] (fun i wr => ∃ p : Nat, p ≤ n4 ∧ i = .int .i64 p ∧ Hid (n4 = 0 ∨ ∃ M, A4 = some ⟨M, 0, none⟩ ∧ w3.heap.size ≤ M ∧ LOK M n4 us wr) ∧ Hid (Below W1.heap.size W1 wr)) (fun i _ => n4 - (intOf i).toNat)
            case atStart => exact ⟨0, Nat.zero_le _, rfl, hl, hbw⟩
            case round =>
              obtain ⟨p, hp, rfl, hl2, hbw2⟩ := hrel
              by_cases hlt : p < n4
              · obtain ⟨M, rfl, hM, hL2⟩ : ∃ M, A4 = some ⟨M, 0, none⟩ ∧ w3.heap.size ≤ M ∧ LOK M n4 us wr := hl2.out.resolve_left (by omega)
                obtain ⟨u, hu⟩ : ∃ u, us[p]? = some u := ⟨_, List.getElem?_eq_getElem (by rw [hL2.len]; exact hlt)⟩
                have hum := List.mem_of_getElem? hu
                have d1 := hL2.at2 hu
                have hy8 := (hL2.2 u hum).2
                have hu' := Lib.hid hu
                have hum' := Lib.hid hum
                have hL2' := Lib.hid hL2
                obtain ⟨y, hy⟩ : ∃ y, u.cl = y := ⟨_, rfl⟩
                have hy' := Lib.hid hy
                rw [hy] at d1 hy8
                clear hu hum hL2 hl2 hy
                go_wp2_with fail
                clear d1
                go_loopw [93] (fun i wr => ∃ j : Nat, j ≤ y ∧ i = .int .i64 j ∧ Hid (LOK M n4 us wr) ∧ Hid (Below W1.heap.size W1 wr)) (fun i _ => y - (intOf i).toNat)
                case atStart => exact ⟨0, Nat.zero_le _, rfl, hL2', hbw2⟩
                case round =>
                  obtain ⟨j, hj, rfl, hl3, hbw3⟩ := hrel
                  by_cases hlt2 : j < y
                  · have d2 := hl3.out.at2 hu'.out
                    have ir := (hl3.out.2 u hum'.out).1
                    rw [hy'.out] at d2 ir
                    obtain ⟨g, eg, g1, g2⟩ := ir.form (by omega)
                    rw [eg] at d2 ir
                    obtain ⟨z, hz, hf⟩ := ir.cell hlt2
                    have R1 := Lib.hid (hl3.out.store (show M < g by omega) j (wrap64 (z + 1)))
                    have R4 := Lib.hid (hbw3.out.setCell (p := ⟨g, j, none⟩) (show W1.heap.size ≤ g by have := b3.out.size; omega) (.int .i64 (wrap64 (z + 1))))
                    clear ir eg hl3
                    go_wp2_with fail
                    go_roundw
                    case rel => exact ⟨j + 1, by omega, by go_num, R1, R4⟩
                    case measure => (simp [intOf]; try omega)
                  · go_wp2_with fail
                    go_roundw
                    case rel => exact ⟨p + 1, by omega, by go_num, Lib.hid (.inr ⟨M, rfl, hM, hl3.out⟩), hbw3⟩
                    case measure => (simp [intOf]; try omega)
              · obtain ⟨wL, hwL⟩ : ∃ wL, wr = wL := ⟨_, rfl⟩
                rw [hwL] at hbw2 ⊢
                have bal := Lib.hid (br.out.trans (hbw2.out.mono br.out.size))
                clear hwL hl2
                obtain ⟨j0, j1, j2, j3, j4⟩ := (J.out.kept bal.out).see
                go_wp2_with fail
                clear j0 j1 j2 j3 j4
                go_loopw [111] (fun i wr => ∃ j : Nat, j ≤ len ∧ i = .int .i64 j ∧ Hid (Below wL.heap.size wL wr)) (fun i _ => len - (intOf i).toNat)
                case atStart => exact ⟨0, Nat.zero_le _, rfl, Lib.hid (Below.refl _ _)⟩
                case round =>
                  obtain ⟨j, hj, rfl, hbr⟩ := hrel
                  have bw := Lib.hid (hbw2.out.trans (hbr.out.mono hbw2.out.size))
                  have bl := Lib.hid (bal.out.trans (hbr.out.mono bal.out.size))
                  by_cases hlt : j < len
                  · obtain ⟨t, b, off, ht, rfl, c0, c1, hAt⟩ := (hI.out.kept bl.out).at hlt
                    obtain ⟨gw, cw', hv⟩ := Joins.ownsRow_form q3'.out (by omega)
                    simp only [Value.slice.injEq, true_and] at hv
                    obtain ⟨rfl, rfl⟩ := hv
                    obtain ⟨u, hu, d0, d1, hAu⟩ := gs_at0 ((gsat_of2 q3'.out (by omega) hws.out).kept bw.out) hlt
                    obtain ⟨e1, e2, -, -⟩ := q2'.out j t u ht hu
                    have ht8 := (hts8.out t (List.mem_of_getElem? ht)).2
                    obtain ⟨wB, hwB, JB5, cB, nB⟩ := grid_box wr (.slice t.sa t.sl t.sc) (.slice t.ca t.cl t.cc)
                    have LS := Lib.hid (fun w1 (hb : Below wB.heap.size wB w1) => lsame5_any t u w1 ((hAt.kept cB.out).kept hb) ((hAu.kept cB.out).kept hb) e1.symm e2.symm (by omega))
                    have SK := Lib.hid (fun w' (hb : Below wB.heap.size wB w') => (⟨(JB5.out.kept hb).see.1, (JB5.out.kept hb).see.2.1, cell_later hb (cell_later cB.out d0), cell_later hb (cell_later cB.out d1)⟩ : w'.cell? ⟨wr.heap.size, 0, none⟩ = some (.slice t.sa t.sl t.sc) ∧ w'.cell? ⟨wr.heap.size, 1, none⟩ = some (.slice t.ca t.cl t.cc) ∧ w'.cell? ⟨gw, j * 2, none⟩ = some (.slice u.sa u.sl u.sc) ∧ w'.cell? ⟨gw, j * 2 + 1, none⟩ = some (.slice u.ca u.cl u.cc)))
                    have t1 := Lib.hid (show Below wB.heap.size wB wB.drew from (Below.refl _ _).drew)
                    have v0 := SK.out _ (Below.refl _ _)
                    have v1 := SK.out _ t1.out
                    clear d0 d1 hAu hAt e1 e2 ht hu ht8
                    go_upto_region 28 with (fail)
                    rw [hwB.out]
                    clear c0 c1
                    go_region_held3 (fun w' => w'.cell? ⟨wr.heap.size, 0, none⟩ = some (.slice t.sa t.sl t.sc) ∧ w'.cell? ⟨wr.heap.size, 1, none⟩ = some (.slice t.ca t.cl t.cc) ∧ w'.cell? ⟨gw, j * 2, none⟩ = some (.slice u.sa u.sl u.sc) ∧ w'.cell? ⟨gw, j * 2 + 1, none⟩ = some (.slice u.ca u.cl u.cc))
                      (first | exact v0 | exact v1 | exact v2 | go_keep)
                      ((go_at_call 18; refine (LS.out _ t1.out).mono ?_; rintro e w6 ⟨rfl, hb6⟩; have v2 := SK.out w6 (t1.out.trans (hb6.mono (Nat.le_refl _))); have hb6' := Lib.hid hb6; clear hb6))
                    have q6 := Lib.hid (hbr.out.trans ((cB.out.trans ((t1.out.trans (hb6'.out.mono (Nat.le_refl _))).mono cB.out.size)).mono hbr.out.size))
                    go_wp2_with fail
                    go_roundw
                    case rel => exact ⟨j + 1, by omega, by go_num, q6⟩
                    case measure => (simp [intOf]; try omega)
                  · obtain rfl : len = j := by omega
                    go_wp2_with fail
                    refine (awake05_any _).mono ?_
                    rintro e w9 ⟨rfl, hb9⟩
                    go_wp2_with fail
                    go_ret
                    exact ⟨rfl, zA.out.trans ((bl.out.trans (hb9.mono bl.out.size)).mono zA.out.size)⟩

theorem pointOwn_walk (kind k : Int) (a : Option Addr) (len cap : Nat) (ts : List TV) (G : TV) (w : World) (p : -9223372036854775808 ≤ kind ∧ kind ≤ 9223372036854775807) (q : -9223372036854775808 ≤ k ∧ k ≤ 9223372036854775807) (g : GsAt w a len ts) (h : G.At w) (l : len ≤ 2932031007317 ∧ (a = none → len = 0 ∧ cap = 0)) (m : ∀ t ∈ ts, t.Nil) :
    Calls Try.prog 5 #[.agg #[.int .i64 kind, .int .i64 k, .slice a len cap, .slice G.sa G.sl G.sc, .slice G.ca G.cl G.cc]] w fun e w' => e = .returned (.bool true) ∧ Below w.heap.size w w' :=
  pointOwn_core kind k a len cap ts G w q.1 q.2 g h l.1 l.2 m
end Go.Proofs.Ytilocmdanjekhaa
