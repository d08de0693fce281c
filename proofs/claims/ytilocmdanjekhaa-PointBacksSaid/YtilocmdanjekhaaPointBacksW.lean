/-
  The walk of the statement PointBacks.
-/
import Derived.Test.YtilocmdanjekhaaBacked
import Derived.Test.YtilocmdanjekhaaPointGoesW
namespace Go.Proofs.Ytilocmdanjekhaa
open Go.RowKit
set_option linter.unusedVariables false
set_option linter.unusedSimpArgs false

set_option maxRecDepth 100000 in
set_option maxHeartbeats 16000000 in
theorem pointBacks_core (kind k : Int) (a : Option Addr) (len cap : Nat) (ts : List TV) (G : TV) (w : World) (hk1 : -9223372036854775808 ≤ k) (hk2 : k ≤ 9223372036854775807) (hI0 : GsAt w a len ts) (hG0 : G.At w) (hr0 : len ≤ 2932031007317) (hn0 : a = none → len = 0 ∧ cap = 0) :
    Calls Try.prog 4 #[.agg #[.int .i64 kind, .int .i64 k, .slice a len cap, .slice G.sa G.sl G.sc, .slice G.ca G.cl G.cc]] w fun e w' => e = .returned (.bool true) ∧ Below w.heap.size w w' := by
  obtain ⟨wA, hwA, J, zA, n1⟩ := backed_box w (.int .i64 kind) (.int .i64 k) (.slice a len cap) (.slice G.sa G.sl G.sc) (.slice G.ca G.cl G.cc)
  have hI := Lib.hid (hI0.kept zA.out)
  have hG := Lib.hid (hG0.kept zA.out)
  have hr := Lib.hid hr0
  have hn := Lib.hid hn0
  clear hI0 hG0 hr0 hn0
  go_enter Try.func4, Try.ntmps4
  go_upto_region 1 with (fail)
  rw [hwA.out]
  go_cut [20] from 11 to 20 (fun s wx => s = .bool (!smallG (ts ++ [G])) ∧ Hid (Below wA.heap.size wA wx))
  case first =>
    have SK := Lib.hid (fun w' (hb : Below wA.heap.size wA w') => (⟨(J.out.kept hb).see.2.2.1, (J.out.kept hb).see.2.2.2.1, (J.out.kept hb).see.2.2.2.2⟩ : w'.cell? ⟨w.heap.size, 2, none⟩ = some (.slice a len cap) ∧ w'.cell? ⟨w.heap.size, 3, none⟩ = some (.slice G.sa G.sl G.sc) ∧ w'.cell? ⟨w.heap.size, 4, none⟩ = some (.slice G.ca G.cl G.cc)))
    obtain ⟨wD, hD⟩ : ∃ wD, wA.drew = wD := ⟨_, rfl⟩
    have bwD := Lib.hid (show Below wA.heap.size wA wD by rw [← hD]; exact (Below.refl _ _).drew)
    refine wp_region_held_drew (S := fun w' => w'.cell? ⟨w.heap.size, 2, none⟩ = some (.slice a len cap) ∧ w'.cell? ⟨w.heap.size, 3, none⟩ = some (.slice G.sa G.sl G.sc) ∧ w'.cell? ⟨w.heap.size, 4, none⟩ = some (.slice G.ca G.cl G.cc)) (by kernel_rfl) (by rw [hD]; exact SK.out wD bwD.out) (fun hHeld => ?_)
    rw [hD] at hHeld ⊢
    clear hD
    refine held_take 1 (.pointer (some ⟨w.heap.size, 2, none⟩)) rfl (by kernel_rfl) (by kernel_rfl) (by kernel_rfl) (fun _ _ _ h => h) (by rfl) (by intro w' hS; go_simp) (by assumption) ?_
    try simp only [Act.put, List.setIfInBounds_toArray, List.set_cons_zero, List.set_cons_succ]
    refine held_take 2 (.slice a len cap) rfl (by kernel_rfl) (by kernel_rfl) (by kernel_rfl) (fun _ _ _ h => h) (by rfl) (by intro w' hS; go_simp) (by assumption) ?_
    try simp only [Act.put, List.setIfInBounds_toArray, List.set_cons_zero, List.set_cons_succ]
    refine held_take 4 (.pointer (some ⟨w.heap.size, 3, none⟩)) rfl (by kernel_rfl) (by kernel_rfl) (by kernel_rfl) (fun _ _ _ h => h) (by rfl) (by intro w' hS; go_simp) (by assumption) ?_
    try simp only [Act.put, List.setIfInBounds_toArray, List.set_cons_zero, List.set_cons_succ]
    refine held_take 5 (.agg #[.slice G.sa G.sl G.sc, .slice G.ca G.cl G.cc]) rfl (by kernel_rfl) (by kernel_rfl) (by kernel_rfl) (fun _ _ _ h => h) (by rfl) (by intro w' hS; go_simp) (by assumption) ?_
    try simp only [Act.put, List.setIfInBounds_toArray, List.set_cons_zero, List.set_cons_succ]
    refine held_two 0 6 (by kernel_rfl) rfl rfl (by rfl) (by rfl) (fun K hK => ?_) (fun K hK => ?_)
    · go_simp
      obtain ⟨x1, hx1⟩ : ∃ y, wD.alloc (.cells #[] 30) = y := ⟨_, rfl⟩
      have cx1 := Lib.hid (show Below wD.heap.size wD x1 by rw [← hx1]; exact (Below.refl _ _).alloc (Nat.le_refl _) _)
      have oE := Lib.hid (show x1.ownsRow wA.heap.size 30 2 (.slice (some ⟨wD.heap.size, 0, none⟩) 0 0) 0 (gcells []) by rw [← hx1]; exact Joins.ownsRow_le (World.ownsRow_made wD #[] 0 (Nat.le_refl _) (Nat.zero_le _) rfl) bwD.out.size)
      have bx1 := Lib.hid (bwD.out.trans (cx1.out.mono bwD.out.size))
      rw [hx1]
      refine hK.out _ _ (SK.out x1 bx1.out) (fun hHeld => ?_)
      try simp only [Act.put, List.setIfInBounds_toArray, List.set_cons_zero, List.set_cons_succ]
      refine held_two 3 6 (by kernel_rfl) rfl rfl (by rfl) (by rfl) (fun K hK => ?_) (fun K hK => ?_)
      · have oEx := Lib.hid (oE.out)
        refine wp_append_gs _ _ rfl wA.heap.size _ 0 [] rfl oEx.out a len cap ts rfl (hI.out.kept bx1.out) hn.out (by have := hr.out; omega) bx1.out.size ?_
        intro v3 x2 o3 g3
        have cx2 := Lib.hid ((Below.refl wA.heap.size x1).grown g3 bx1.out.size (fun q hq => (oEx.out.lt q hq).1))
        have bx2 := Lib.hid (bx1.out.trans cx2.out)
        have o3' := Lib.hid o3
        have g3' := Lib.hid g3
        clear o3 g3
        refine hK.out _ _ (SK.out x2 bx2.out) (fun hHeld => ?_)
        try simp only [Act.put, List.setIfInBounds_toArray, List.set_cons_zero, List.set_cons_succ]
        refine held_call 6 (by kernel_rfl) rfl (by rfl) (fun K hK => ?_)
        go_simp
        obtain ⟨x3, hx3, gG, cx3⟩ := gs_made1 x2 G (hG.out.kept bx2.out)
        have bx3 := Lib.hid (bx2.out.trans (cx3.out.mono bx2.out.size))
        have hx3' := hx3.out
        try rw [hx3']
        clear hx3'
        refine hK.out _ _ (SK.out x3 bx3.out) (fun hHeld => ?_)
        try simp only [Act.put, List.setIfInBounds_toArray, List.set_cons_zero, List.set_cons_succ]
        have o3x := Lib.hid (row_kept o3'.out cx3.out)
        have gGx := Lib.hid (gG.out)
        refine held_call 7 (by kernel_rfl) rfl (by rfl) (fun K hK => ?_)
        refine wp_append_gs _ _ rfl wA.heap.size v3 (0 + len) ([] ++ ts) rfl o3x.out _ 1 1 [G] rfl gGx.out (fun e => by cases e) (by have := hr.out; omega) bx3.out.size ?_
        intro v7 x8 o7 g7
        rw [Nat.zero_add, List.nil_append] at o7
        have c8 := Lib.hid ((Below.refl wA.heap.size x3).grown g7 bx3.out.size (fun q hq => (o3x.out.lt q hq).1))
        have b8 := Lib.hid (bx3.out.trans c8.out)
        obtain ⟨g8, cap8, rfl⟩ := Joins.ownsRow_form o7 (by omega)
        have o7' := Lib.hid (gsat_of2 o7 (by have := hr.out; omega) (fun t ht => by
          rcases List.mem_append.1 ht with ht | ht
          · exact (hI.out.2.2.1 t ht).kept b8.out
          · rw [List.mem_singleton] at ht; subst ht; exact hG.out.kept b8.out))
        clear o7 g7
        refine hK.out _ _ (SK.out x8 b8.out) (fun hHeld => ?_)
        try simp only [Act.put, List.setIfInBounds_toArray, List.set_cons_zero, List.set_cons_succ]
        refine held_call 8 (by kernel_rfl) rfl (by rfl) (fun K hK => ?_)
        go_simp
        refine (small_any _ _ _ _ x8 o7'.out).mono ?_
        rintro e x9 ⟨rfl, c9⟩
        have b9 := Lib.hid (b8.out.trans (c9.mono b8.out.size))
        go_wp2_with fail
        refine hK.out _ _ (SK.out x9 b9.out) (fun hHeld => ?_)
        try simp only [Act.put, List.setIfInBounds_toArray, List.set_cons_zero, List.set_cons_succ]
        refine held_take 9 (.bool (!smallG (ts ++ [G]))) rfl (by kernel_rfl) (by kernel_rfl) (by kernel_rfl) (fun _ _ _ h => h) (by rfl) (by intro w' hS; go_simp) (by assumption) ?_
        try simp only [Act.put, List.setIfInBounds_toArray, List.set_cons_zero, List.set_cons_succ]
        refine wpAnyH_done (by kernel_rfl) ?_ _
        go_wp2_with fail
        go_meet
        case rel => exact ⟨rfl, b9⟩
      · go_simp
        obtain ⟨x2, hx2, gG, cx2⟩ := gs_made1 x1 G (hG.out.kept bx1.out)
        have bx2 := Lib.hid (bx1.out.trans (cx2.out.mono bx1.out.size))
        have hx2' := hx2.out
        try rw [hx2']
        clear hx2'
        refine hK.out _ _ (SK.out x2 bx2.out) (fun hHeld => ?_)
        try simp only [Act.put, List.setIfInBounds_toArray, List.set_cons_zero, List.set_cons_succ]
        refine held_call 3 (by kernel_rfl) rfl (by rfl) (fun K hK => ?_)
        have oEx := Lib.hid (row_kept oE.out cx2.out)
        refine wp_append_gs _ _ rfl wA.heap.size _ 0 [] rfl oEx.out a len cap ts rfl (hI.out.kept bx2.out) hn.out (by have := hr.out; omega) bx2.out.size ?_
        intro v3 x3 o3 g3
        have cx3 := Lib.hid ((Below.refl wA.heap.size x2).grown g3 bx2.out.size (fun q hq => (oEx.out.lt q hq).1))
        have bx3 := Lib.hid (bx2.out.trans cx3.out)
        have o3' := Lib.hid o3
        have g3' := Lib.hid g3
        clear o3 g3
        refine hK.out _ _ (SK.out x3 bx3.out) (fun hHeld => ?_)
        try simp only [Act.put, List.setIfInBounds_toArray, List.set_cons_zero, List.set_cons_succ]
        have o3x := Lib.hid (o3'.out)
        have gGx := Lib.hid (gs1_over gG.out (g3'.out.block _ (gs1_lt gG.out) (fun e => by have e' : x1.heap.size = wD.heap.size := Option.some.inj e; have := (oE.out.lt wD.heap.size rfl).2; omega)) (hG.out.kept bx3.out))
        refine held_call 7 (by kernel_rfl) rfl (by rfl) (fun K hK => ?_)
        refine wp_append_gs _ _ rfl wA.heap.size v3 (0 + len) ([] ++ ts) rfl o3x.out _ 1 1 [G] rfl gGx.out (fun e => by cases e) (by have := hr.out; omega) bx3.out.size ?_
        intro v7 x8 o7 g7
        rw [Nat.zero_add, List.nil_append] at o7
        have c8 := Lib.hid ((Below.refl wA.heap.size x3).grown g7 bx3.out.size (fun q hq => (o3x.out.lt q hq).1))
        have b8 := Lib.hid (bx3.out.trans c8.out)
        obtain ⟨g8, cap8, rfl⟩ := Joins.ownsRow_form o7 (by omega)
        have o7' := Lib.hid (gsat_of2 o7 (by have := hr.out; omega) (fun t ht => by
          rcases List.mem_append.1 ht with ht | ht
          · exact (hI.out.2.2.1 t ht).kept b8.out
          · rw [List.mem_singleton] at ht; subst ht; exact hG.out.kept b8.out))
        clear o7 g7
        refine hK.out _ _ (SK.out x8 b8.out) (fun hHeld => ?_)
        try simp only [Act.put, List.setIfInBounds_toArray, List.set_cons_zero, List.set_cons_succ]
        refine held_call 8 (by kernel_rfl) rfl (by rfl) (fun K hK => ?_)
        go_simp
        refine (small_any _ _ _ _ x8 o7'.out).mono ?_
        rintro e x9 ⟨rfl, c9⟩
        have b9 := Lib.hid (b8.out.trans (c9.mono b8.out.size))
        go_wp2_with fail
        refine hK.out _ _ (SK.out x9 b9.out) (fun hHeld => ?_)
        try simp only [Act.put, List.setIfInBounds_toArray, List.set_cons_zero, List.set_cons_succ]
        refine held_take 9 (.bool (!smallG (ts ++ [G]))) rfl (by kernel_rfl) (by kernel_rfl) (by kernel_rfl) (fun _ _ _ h => h) (by rfl) (by intro w' hS; go_simp) (by assumption) ?_
        try simp only [Act.put, List.setIfInBounds_toArray, List.set_cons_zero, List.set_cons_succ]
        refine wpAnyH_done (by kernel_rfl) ?_ _
        go_wp2_with fail
        go_meet
        case rel => exact ⟨rfl, b9⟩
    · go_simp
      obtain ⟨x1, hx1, gG, cx1⟩ := gs_made1 wD G (hG.out.kept bwD.out)
      have bx1 := Lib.hid (bwD.out.trans (cx1.out.mono bwD.out.size))
      have hx1' := hx1.out
      try rw [hx1']
      clear hx1'
      refine hK.out _ _ (SK.out x1 bx1.out) (fun hHeld => ?_)
      try simp only [Act.put, List.setIfInBounds_toArray, List.set_cons_zero, List.set_cons_succ]
      refine held_call 0 (by kernel_rfl) rfl (by rfl) (fun K hK => ?_)
      go_simp
      obtain ⟨x2, hx2⟩ : ∃ y, x1.alloc (.cells #[] 30) = y := ⟨_, rfl⟩
      have cx2 := Lib.hid (show Below x1.heap.size x1 x2 by rw [← hx2]; exact (Below.refl _ _).alloc (Nat.le_refl _) _)
      have oE := Lib.hid (show x2.ownsRow wA.heap.size 30 2 (.slice (some ⟨x1.heap.size, 0, none⟩) 0 0) 0 (gcells []) by rw [← hx2]; exact Joins.ownsRow_le (World.ownsRow_made x1 #[] 0 (Nat.le_refl _) (Nat.zero_le _) rfl) bx1.out.size)
      have bx2 := Lib.hid (bx1.out.trans (cx2.out.mono bx1.out.size))
      rw [hx2]
      refine hK.out _ _ (SK.out x2 bx2.out) (fun hHeld => ?_)
      try simp only [Act.put, List.setIfInBounds_toArray, List.set_cons_zero, List.set_cons_succ]
      refine held_call 3 (by kernel_rfl) rfl (by rfl) (fun K hK => ?_)
      have oEx := Lib.hid (oE.out)
      refine wp_append_gs _ _ rfl wA.heap.size _ 0 [] rfl oEx.out a len cap ts rfl (hI.out.kept bx2.out) hn.out (by have := hr.out; omega) bx2.out.size ?_
      intro v3 x3 o3 g3
      have cx3 := Lib.hid ((Below.refl wA.heap.size x2).grown g3 bx2.out.size (fun q hq => (oEx.out.lt q hq).1))
      have bx3 := Lib.hid (bx2.out.trans cx3.out)
      have o3' := Lib.hid o3
      have g3' := Lib.hid g3
      clear o3 g3
      refine hK.out _ _ (SK.out x3 bx3.out) (fun hHeld => ?_)
      try simp only [Act.put, List.setIfInBounds_toArray, List.set_cons_zero, List.set_cons_succ]
      have o3x := Lib.hid (o3'.out)
      have gGx := Lib.hid (gs1_over (gG.out.kept cx2.out) (g3'.out.block _ (Nat.lt_of_lt_of_le (gs1_lt gG.out) cx2.out.size) (fun e => by have e' : wD.heap.size = x1.heap.size := Option.some.inj e; have := gs1_lt gG.out; omega)) (hG.out.kept bx3.out))
      refine held_call 7 (by kernel_rfl) rfl (by rfl) (fun K hK => ?_)
      refine wp_append_gs _ _ rfl wA.heap.size v3 (0 + len) ([] ++ ts) rfl o3x.out _ 1 1 [G] rfl gGx.out (fun e => by cases e) (by have := hr.out; omega) bx3.out.size ?_
      intro v7 x8 o7 g7
      rw [Nat.zero_add, List.nil_append] at o7
      have c8 := Lib.hid ((Below.refl wA.heap.size x3).grown g7 bx3.out.size (fun q hq => (o3x.out.lt q hq).1))
      have b8 := Lib.hid (bx3.out.trans c8.out)
      obtain ⟨g8, cap8, rfl⟩ := Joins.ownsRow_form o7 (by omega)
      have o7' := Lib.hid (gsat_of2 o7 (by have := hr.out; omega) (fun t ht => by
        rcases List.mem_append.1 ht with ht | ht
        · exact (hI.out.2.2.1 t ht).kept b8.out
        · rw [List.mem_singleton] at ht; subst ht; exact hG.out.kept b8.out))
      clear o7 g7
      refine hK.out _ _ (SK.out x8 b8.out) (fun hHeld => ?_)
      try simp only [Act.put, List.setIfInBounds_toArray, List.set_cons_zero, List.set_cons_succ]
      refine held_call 8 (by kernel_rfl) rfl (by rfl) (fun K hK => ?_)
      go_simp
      refine (small_any _ _ _ _ x8 o7'.out).mono ?_
      rintro e x9 ⟨rfl, c9⟩
      have b9 := Lib.hid (b8.out.trans (c9.mono b8.out.size))
      go_wp2_with fail
      refine hK.out _ _ (SK.out x9 b9.out) (fun hHeld => ?_)
      try simp only [Act.put, List.setIfInBounds_toArray, List.set_cons_zero, List.set_cons_succ]
      refine held_take 9 (.bool (!smallG (ts ++ [G]))) rfl (by kernel_rfl) (by kernel_rfl) (by kernel_rfl) (fun _ _ _ h => h) (by rfl) (by intro w' hS; go_simp) (by assumption) ?_
      try simp only [Act.put, List.setIfInBounds_toArray, List.set_cons_zero, List.set_cons_succ]
      refine wpAnyH_done (by kernel_rfl) ?_ _
      go_wp2_with fail
      go_meet
      case rel => exact ⟨rfl, b9⟩
  case rest =>
    obtain ⟨rfl, bc⟩ := hcut
    cases hs : smallG (ts ++ [G])
    · simp only [hs, Bool.not_false]
      go_wp2_with fail
      refine (awake05_any _).mono ?_
      rintro e w9 ⟨rfl, hb9⟩
      go_wp2_with fail
      go_ret
      exact ⟨rfl, zA.out.trans ((bc.out.trans (hb9.mono bc.out.size)).mono zA.out.size)⟩
    simp only [hs, Bool.not_true]
    have hwt : wts (ts ++ [G]) ≤ 800 := of_decide_eq_true hs
    have hGw := wts_mem (ts := ts ++ [G]) (t := G) (by simp)
    have hGl : G.cl ≤ 800 := by omega
    have GD := Lib.hid (fun w1 (hb : Below wA.heap.size wA w1) => good_any kind a len cap ts w1 (hI.out.kept hb))
    by_cases hE : faultE kind ts = 0
    · obtain ⟨g1, g2, g3⟩ := fault_good hE
      have h0 : 0 < len := by
        have := hI.out.1
        rcases insN_cases kind with ⟨e, -⟩ | ⟨e, -⟩ | ⟨e, -⟩ <;> omega
      obtain ⟨t, b, off, ht, rfl, c0, c1, hAt⟩ := hI.out.at h0
      have F0 := Lib.hid (fun w1 (hb : Below wA.heap.size wA w1) => cell_later hb c0)
      have F1 := Lib.hid (fun w1 (hb : Below wA.heap.size wA w1) => cell_later hb c1)
      simp only [Nat.zero_mul, Nat.add_zero] at F0 F1
      have RG := Lib.hid (fun w1 (hb : Below wA.heap.size wA w1) => rright_any G.sa G.sl G.sc G.ss G.ca G.cl G.cc w1 (hG.out.1.kept hb) (by omega))
      have RS := Lib.hid (fun w1 (hb : Below wA.heap.size wA w1) => same_any G.sa G.sl G.sc G.ss t.sa t.sl t.sc t.ss w1 (hG.out.1.kept hb) (hAt.1.kept hb))
      have hp0 : ¬ len = 0 := by omega
      rw [hE] at GD
      cases hb0 : (rightT G.ss G.cl && sameL G.ss t.ss)
      · have PB := Lib.hid (fun w1 (hb : Below wA.heap.size wA w1) => pback_no2 kind k G _ len cap ts w1 (hI.out.kept hb) (hG.out.kept hb) hE t ht hb0)
        obtain ⟨rg, hrg⟩ : ∃ rg, rightT G.ss G.cl = rg := ⟨_, rfl⟩
        obtain ⟨rs, hrs⟩ : ∃ rs, sameL G.ss t.ss = rs := ⟨_, rfl⟩
        rw [hrg] at RG hb0
        rw [hrs] at RS hb0
        clear hrg hrs c0 c1 g1 g2 g3 ht hE hs hwt hGw hAt hGl
        obtain ⟨j0, j1, j2, j3, j4⟩ := (J.out.kept bc.out).see
        go_wp2_with fail
        refine (PB.out _ bc.out).mono ?_
        rintro e w2 ⟨rfl, hb2⟩
        have b2 := Lib.hid (bc.out.trans (hb2.mono bc.out.size))
        clear j0 j1 j2 j3 j4 PB hb2
        obtain ⟨j0, j1, j2, j3, j4⟩ := (J.out.kept b2.out).see
        go_wp2_with fail
        refine (GD.out _ b2.out).mono ?_
        rintro e w3 ⟨rfl, hb3⟩
        have b3 := Lib.hid (b2.out.trans (hb3.mono b2.out.size))
        clear j0 j1 j2 j3 j4 GD hb3
        cases rg
        · clear hb0 RS
          have SK := Lib.hid (fun w' (hb : Below w3.heap.size w3 w') => (⟨(J.out.kept (b3.out.trans (hb.mono b3.out.size))).see.2.2.1, (J.out.kept (b3.out.trans (hb.mono b3.out.size))).see.2.2.2.1, (J.out.kept (b3.out.trans (hb.mono b3.out.size))).see.2.2.2.2, F0.out w' (b3.out.trans (hb.mono b3.out.size))⟩ : w'.cell? ⟨w.heap.size, 2, none⟩ = some (.slice (some ⟨b, off, none⟩) len cap) ∧ w'.cell? ⟨w.heap.size, 3, none⟩ = some (.slice G.sa G.sl G.sc) ∧ w'.cell? ⟨w.heap.size, 4, none⟩ = some (.slice G.ca G.cl G.cc) ∧ w'.cell? ⟨b, off, none⟩ = some (.slice t.sa t.sl t.sc)))
          have t1 := Lib.hid (show Below w3.heap.size w3 w3.drew from (Below.refl _ _).drew)
          go_upto_region 5 with (fail)
          refine wp_region_held_drew (S := fun w' => w'.cell? ⟨w.heap.size, 2, none⟩ = some (.slice (some ⟨b, off, none⟩) len cap) ∧ w'.cell? ⟨w.heap.size, 3, none⟩ = some (.slice G.sa G.sl G.sc) ∧ w'.cell? ⟨w.heap.size, 4, none⟩ = some (.slice G.ca G.cl G.cc) ∧ w'.cell? ⟨b, off, none⟩ = some (.slice t.sa t.sl t.sc)) (by kernel_rfl) (SK.out _ t1.out) (fun hHeld => ?_)
          refine held_take 0 (.int .i64 0) rfl (by kernel_rfl) (by kernel_rfl) (by kernel_rfl) (fun _ _ _ h => h) (by rfl) (by intro w' hS; go_simp) (by assumption) ?_
          try simp only [Act.put, List.setIfInBounds_toArray, List.set_cons_zero, List.set_cons_succ]
          refine held_take 1 (.bool true) rfl (by kernel_rfl) (by kernel_rfl) (by kernel_rfl) (fun _ _ _ h => h) (by rfl) (by intro w' hS; go_simp) (by assumption) ?_
          try simp only [Act.put, List.setIfInBounds_toArray, List.set_cons_zero, List.set_cons_succ]
          refine held_take 2 (.bool true) rfl (by kernel_rfl) (by kernel_rfl) (by kernel_rfl) (fun _ _ _ h => h) (by rfl) (by intro w' hS; go_simp) (by assumption) ?_
          try simp only [Act.put, List.setIfInBounds_toArray, List.set_cons_zero, List.set_cons_succ]
          refine held_take 3 (.pointer (some ⟨w.heap.size, 3, none⟩)) rfl (by kernel_rfl) (by kernel_rfl) (by kernel_rfl) (fun _ _ _ h => h) (by rfl) (by intro w' hS; go_simp) (by assumption) ?_
          try simp only [Act.put, List.setIfInBounds_toArray, List.set_cons_zero, List.set_cons_succ]
          refine held_take 4 (.agg #[.slice G.sa G.sl G.sc, .slice G.ca G.cl G.cc]) rfl (by kernel_rfl) (by kernel_rfl) (by kernel_rfl) (fun _ _ _ h => h) (by rfl) (by intro w' hS; go_simp) (by assumption) ?_
          try simp only [Act.put, List.setIfInBounds_toArray, List.set_cons_zero, List.set_cons_succ]
          refine held_call 5 (by kernel_rfl) rfl (by rfl) (fun K hK => ?_)
          go_simp
          refine (RG.out w3.drew (b3.out.trans (t1.out.mono b3.out.size))).mono ?_
          rintro e w4 ⟨rfl, hb⟩
          go_wp2_with fail
          refine hK.out _ _ (SK.out w4 (t1.out.trans (hb.mono (Nat.le_refl _)))) (fun hHeld => ?_)
          try simp only [Act.put, List.setIfInBounds_toArray, List.set_cons_zero, List.set_cons_succ]
          refine held_take 6 (.bool true) rfl (by kernel_rfl) (by kernel_rfl) (by kernel_rfl) (fun _ _ _ h => h) (by rfl) (by intro w' hS; go_simp) (by assumption) ?_
          try simp only [Act.put, List.setIfInBounds_toArray, List.set_cons_zero, List.set_cons_succ]
          refine held_take 7 (.bool true) rfl (by kernel_rfl) (by kernel_rfl) (by kernel_rfl) (fun _ _ _ h => h) (by rfl) (by intro w' hS; go_simp) (by assumption) ?_
          try simp only [Act.put, List.setIfInBounds_toArray, List.set_cons_zero, List.set_cons_succ]
          refine held_skip 8 rfl (by kernel_rfl) (by kernel_rfl) (by kernel_rfl) (fun _ _ _ h => h) (by rfl) (by assumption) ?_
          try simp only [Act.put, List.setIfInBounds_toArray, List.set_cons_zero, List.set_cons_succ]
          refine held_skip 9 rfl (by kernel_rfl) (by kernel_rfl) (by kernel_rfl) (fun _ _ _ h => h) (by rfl) (by assumption) ?_
          try simp only [Act.put, List.setIfInBounds_toArray, List.set_cons_zero, List.set_cons_succ]
          refine held_skip 10 rfl (by kernel_rfl) (by kernel_rfl) (by kernel_rfl) (fun _ _ _ h => h) (by rfl) (by assumption) ?_
          try simp only [Act.put, List.setIfInBounds_toArray, List.set_cons_zero, List.set_cons_succ]
          refine held_skip 11 rfl (by kernel_rfl) (by kernel_rfl) (by kernel_rfl) (fun _ _ _ h => h) (by rfl) (by assumption) ?_
          try simp only [Act.put, List.setIfInBounds_toArray, List.set_cons_zero, List.set_cons_succ]
          refine held_skip 12 rfl (by kernel_rfl) (by kernel_rfl) (by kernel_rfl) (fun _ _ _ h => h) (by rfl) (by assumption) ?_
          try simp only [Act.put, List.setIfInBounds_toArray, List.set_cons_zero, List.set_cons_succ]
          refine held_skip 13 rfl (by kernel_rfl) (by kernel_rfl) (by kernel_rfl) (fun _ _ _ h => h) (by rfl) (by assumption) ?_
          try simp only [Act.put, List.setIfInBounds_toArray, List.set_cons_zero, List.set_cons_succ]
          refine held_skip 14 rfl (by kernel_rfl) (by kernel_rfl) (by kernel_rfl) (fun _ _ _ h => h) (by rfl) (by assumption) ?_
          try simp only [Act.put, List.setIfInBounds_toArray, List.set_cons_zero, List.set_cons_succ]
          refine held_skip 15 rfl (by kernel_rfl) (by kernel_rfl) (by kernel_rfl) (fun _ _ _ h => h) (by rfl) (by assumption) ?_
          try simp only [Act.put, List.setIfInBounds_toArray, List.set_cons_zero, List.set_cons_succ]
          refine held_left 16 (by kernel_rfl) rfl (by rfl) (by assumption) ?_
          try simp only [Act.put, List.setIfInBounds_toArray, List.set_cons_zero, List.set_cons_succ]
          refine held_skip 17 rfl (by kernel_rfl) (by kernel_rfl) (by kernel_rfl) (fun _ _ _ h => h) (by rfl) (by assumption) ?_
          try simp only [Act.put, List.setIfInBounds_toArray, List.set_cons_zero, List.set_cons_succ]
          refine held_take 18 (.bool true) rfl (by kernel_rfl) (by kernel_rfl) (by kernel_rfl) (fun _ _ _ h => h) (by rfl) (by intro w' hS; go_simp) (by assumption) ?_
          try simp only [Act.put, List.setIfInBounds_toArray, List.set_cons_zero, List.set_cons_succ]
          refine held_take 19 (.bool true) rfl (by kernel_rfl) (by kernel_rfl) (by kernel_rfl) (fun _ _ _ h => h) (by rfl) (by intro w' hS; go_simp) (by assumption) ?_
          try simp only [Act.put, List.setIfInBounds_toArray, List.set_cons_zero, List.set_cons_succ]
          refine wpAnyH_done (by kernel_rfl) ?_ _
          have b5 := Lib.hid (b3.out.trans ((t1.out.trans (hb.mono (Nat.le_refl _))).mono b3.out.size))
          go_wp2_with fail
          refine (awake05_any _).mono ?_
          rintro e w9 ⟨rfl, hb9⟩
          go_wp2_with fail
          go_ret
          exact ⟨rfl, zA.out.trans ((b5.out.trans (hb9.mono b5.out.size)).mono zA.out.size)⟩
        · have hrs : rs = false := by simpa using hb0
          subst hrs
          clear hb0
          have SK := Lib.hid (fun w' (hb : Below w3.heap.size w3 w') => (⟨(J.out.kept (b3.out.trans (hb.mono b3.out.size))).see.2.2.1, (J.out.kept (b3.out.trans (hb.mono b3.out.size))).see.2.2.2.1, (J.out.kept (b3.out.trans (hb.mono b3.out.size))).see.2.2.2.2, F0.out w' (b3.out.trans (hb.mono b3.out.size))⟩ : w'.cell? ⟨w.heap.size, 2, none⟩ = some (.slice (some ⟨b, off, none⟩) len cap) ∧ w'.cell? ⟨w.heap.size, 3, none⟩ = some (.slice G.sa G.sl G.sc) ∧ w'.cell? ⟨w.heap.size, 4, none⟩ = some (.slice G.ca G.cl G.cc) ∧ w'.cell? ⟨b, off, none⟩ = some (.slice t.sa t.sl t.sc)))
          have t1 := Lib.hid (show Below w3.heap.size w3 w3.drew from (Below.refl _ _).drew)
          go_upto_region 5 with (fail)
          refine wp_region_held_drew (S := fun w' => w'.cell? ⟨w.heap.size, 2, none⟩ = some (.slice (some ⟨b, off, none⟩) len cap) ∧ w'.cell? ⟨w.heap.size, 3, none⟩ = some (.slice G.sa G.sl G.sc) ∧ w'.cell? ⟨w.heap.size, 4, none⟩ = some (.slice G.ca G.cl G.cc) ∧ w'.cell? ⟨b, off, none⟩ = some (.slice t.sa t.sl t.sc)) (by kernel_rfl) (SK.out _ t1.out) (fun hHeld => ?_)
          refine held_take 0 (.int .i64 0) rfl (by kernel_rfl) (by kernel_rfl) (by kernel_rfl) (fun _ _ _ h => h) (by rfl) (by intro w' hS; go_simp) (by assumption) ?_
          try simp only [Act.put, List.setIfInBounds_toArray, List.set_cons_zero, List.set_cons_succ]
          refine held_take 1 (.bool true) rfl (by kernel_rfl) (by kernel_rfl) (by kernel_rfl) (fun _ _ _ h => h) (by rfl) (by intro w' hS; go_simp) (by assumption) ?_
          try simp only [Act.put, List.setIfInBounds_toArray, List.set_cons_zero, List.set_cons_succ]
          refine held_take 2 (.bool true) rfl (by kernel_rfl) (by kernel_rfl) (by kernel_rfl) (fun _ _ _ h => h) (by rfl) (by intro w' hS; go_simp) (by assumption) ?_
          try simp only [Act.put, List.setIfInBounds_toArray, List.set_cons_zero, List.set_cons_succ]
          refine held_take 3 (.pointer (some ⟨w.heap.size, 3, none⟩)) rfl (by kernel_rfl) (by kernel_rfl) (by kernel_rfl) (fun _ _ _ h => h) (by rfl) (by intro w' hS; go_simp) (by assumption) ?_
          try simp only [Act.put, List.setIfInBounds_toArray, List.set_cons_zero, List.set_cons_succ]
          refine held_take 4 (.agg #[.slice G.sa G.sl G.sc, .slice G.ca G.cl G.cc]) rfl (by kernel_rfl) (by kernel_rfl) (by kernel_rfl) (fun _ _ _ h => h) (by rfl) (by intro w' hS; go_simp) (by assumption) ?_
          try simp only [Act.put, List.setIfInBounds_toArray, List.set_cons_zero, List.set_cons_succ]
          refine held_call 5 (by kernel_rfl) rfl (by rfl) (fun K hK => ?_)
          go_simp
          refine (RG.out w3.drew (b3.out.trans (t1.out.mono b3.out.size))).mono ?_
          rintro e w4 ⟨rfl, hb⟩
          go_wp2_with fail
          refine hK.out _ _ (SK.out w4 (t1.out.trans (hb.mono (Nat.le_refl _)))) (fun hHeld => ?_)
          try simp only [Act.put, List.setIfInBounds_toArray, List.set_cons_zero, List.set_cons_succ]
          refine held_take 6 (.bool false) rfl (by kernel_rfl) (by kernel_rfl) (by kernel_rfl) (fun _ _ _ h => h) (by rfl) (by intro w' hS; go_simp) (by assumption) ?_
          try simp only [Act.put, List.setIfInBounds_toArray, List.set_cons_zero, List.set_cons_succ]
          refine held_take 7 (.bool false) rfl (by kernel_rfl) (by kernel_rfl) (by kernel_rfl) (fun _ _ _ h => h) (by rfl) (by intro w' hS; go_simp) (by assumption) ?_
          try simp only [Act.put, List.setIfInBounds_toArray, List.set_cons_zero, List.set_cons_succ]
          refine held_take 8 (.pointer (some ⟨w.heap.size, 3, none⟩)) rfl (by kernel_rfl) (by kernel_rfl) (by kernel_rfl) (fun _ _ _ h => h) (by rfl) (by intro w' hS; go_simp) (by assumption) ?_
          try simp only [Act.put, List.setIfInBounds_toArray, List.set_cons_zero, List.set_cons_succ]
          refine held_take 9 (.pointer (some ⟨w.heap.size, 3, none⟩)) rfl (by kernel_rfl) (by kernel_rfl) (by kernel_rfl) (fun _ _ _ h => h) (by rfl) (by intro w' hS; go_simp) (by assumption) ?_
          try simp only [Act.put, List.setIfInBounds_toArray, List.set_cons_zero, List.set_cons_succ]
          refine held_take 10 (.slice G.sa G.sl G.sc) rfl (by kernel_rfl) (by kernel_rfl) (by kernel_rfl) (fun _ _ _ h => h) (by rfl) (by intro w' hS; go_simp) (by assumption) ?_
          try simp only [Act.put, List.setIfInBounds_toArray, List.set_cons_zero, List.set_cons_succ]
          refine held_take 11 (.pointer (some ⟨w.heap.size, 2, none⟩)) rfl (by kernel_rfl) (by kernel_rfl) (by kernel_rfl) (fun _ _ _ h => h) (by rfl) (by intro w' hS; go_simp) (by assumption) ?_
          try simp only [Act.put, List.setIfInBounds_toArray, List.set_cons_zero, List.set_cons_succ]
          refine held_take 12 (.slice (some ⟨b, off, none⟩) len cap) rfl (by kernel_rfl) (by kernel_rfl) (by kernel_rfl) (fun _ _ _ h => h) (by rfl) (by intro w' hS; go_simp) (by assumption) ?_
          try simp only [Act.put, List.setIfInBounds_toArray, List.set_cons_zero, List.set_cons_succ]
          refine held_take 13 (.pointer (some ⟨b, off, none⟩)) rfl (by kernel_rfl) (by kernel_rfl) (by kernel_rfl) (fun _ _ _ h => h) (by rfl) (by intro w' hS; go_simp) (by assumption) ?_
          try simp only [Act.put, List.setIfInBounds_toArray, List.set_cons_zero, List.set_cons_succ]
          refine held_take 14 (.pointer (some ⟨b, off, none⟩)) rfl (by kernel_rfl) (by kernel_rfl) (by kernel_rfl) (fun _ _ _ h => h) (by rfl) (by intro w' hS; go_simp) (by assumption) ?_
          try simp only [Act.put, List.setIfInBounds_toArray, List.set_cons_zero, List.set_cons_succ]
          refine held_take 15 (.slice t.sa t.sl t.sc) rfl (by kernel_rfl) (by kernel_rfl) (by kernel_rfl) (fun _ _ _ h => h) (by rfl) (by intro w' hS; go_simp) (by assumption) ?_
          try simp only [Act.put, List.setIfInBounds_toArray, List.set_cons_zero, List.set_cons_succ]
          refine held_call 16 (by kernel_rfl) rfl (by rfl) (fun K hK => ?_)
          go_simp
          refine (RS.out w4 (b3.out.trans ((t1.out.trans (hb.mono (Nat.le_refl _))).mono b3.out.size))).mono ?_
          rintro e w6 ⟨rfl, m, rfl⟩
          go_wp2_with fail
          refine hK.out _ _ (SK.out _ (below_drewN' (t1.out.trans (hb.mono (Nat.le_refl _))) m)) (fun hHeld => ?_)
          try simp only [Act.put, List.setIfInBounds_toArray, List.set_cons_zero, List.set_cons_succ]
          refine held_take 17 (.bool true) rfl (by kernel_rfl) (by kernel_rfl) (by kernel_rfl) (fun _ _ _ h => h) (by rfl) (by intro w' hS; go_simp) (by assumption) ?_
          try simp only [Act.put, List.setIfInBounds_toArray, List.set_cons_zero, List.set_cons_succ]
          refine held_take 18 (.bool true) rfl (by kernel_rfl) (by kernel_rfl) (by kernel_rfl) (fun _ _ _ h => h) (by rfl) (by intro w' hS; go_simp) (by assumption) ?_
          try simp only [Act.put, List.setIfInBounds_toArray, List.set_cons_zero, List.set_cons_succ]
          refine held_take 19 (.bool true) rfl (by kernel_rfl) (by kernel_rfl) (by kernel_rfl) (fun _ _ _ h => h) (by rfl) (by intro w' hS; go_simp) (by assumption) ?_
          try simp only [Act.put, List.setIfInBounds_toArray, List.set_cons_zero, List.set_cons_succ]
          refine wpAnyH_done (by kernel_rfl) ?_ _
          have b5 := Lib.hid (b3.out.trans ((below_drewN' (t1.out.trans (hb.mono (Nat.le_refl _))) m).mono b3.out.size))
          go_wp2_with fail
          refine (awake05_any _).mono ?_
          rintro e w9 ⟨rfl, hb9⟩
          go_wp2_with fail
          go_ret
          exact ⟨rfl, zA.out.trans ((b5.out.trans (hb9.mono b5.out.size)).mono zA.out.size)⟩
      · have hb1 : rightT G.ss G.cl = true ∧ sameL G.ss t.ss = true := by simpa using hb0
        rw [hb1.1] at RG
        rw [hb1.2] at RS
        have PB := Lib.hid (fun w1 (hb : Below wA.heap.size wA w1) => pback_ok kind k G _ len cap ts w1 (hI.out.kept hb) (hG.out.kept hb) hE t ht hb1.1 hb1.2 (by omega) hk1 hk2)
        obtain ⟨r1, r2⟩ := okTs_at g3 ht
        have hcl0 := rightT_pos5 hb1.1
        have es : G.ss = t.ss := sameL_eq hb1.2
        have hclt : G.cl = t.cl := by
          have e1 := (rightT_parts hb1.1).2
          have e2 := (rightT_parts r1).2
          rw [es] at e1
          omega
        have hGs : G.sl ≤ 1000 := by have := hG.out.1.1; have := rightT_side hb1.1; omega
        have hkind := Lib.hid (insN_cases kind)
        have hlenk := Lib.hid (hI.out.1 ▸ g2 : (len : Int) = insN kind)
        have hl2 : len ≤ 2 := by
          have := hlenk.out
          rcases hkind.out with ⟨e, -⟩ | ⟨e, -⟩ | ⟨e, -⟩ <;> omega
        obtain ⟨bg, og, eG, hGc⟩ : ∃ bg og, G.ca = some ⟨bg, og, none⟩ ∧ ∀ j, j < G.cl → wA.cell? ⟨bg, og + j, none⟩ = some (.int .i64 (G.cs.getD j 0)) := by
          rcases hG.out.2.1.2.2.2 with h4 | ⟨bg, og, ha, hc⟩
          · omega
          · exact ⟨bg, og, ha, hc⟩
        obtain ⟨bx, ox, eX, hXc⟩ : ∃ bx ox, t.ca = some ⟨bx, ox, none⟩ ∧ ∀ j, j < G.cl → wA.cell? ⟨bx, ox + j, none⟩ = some (.int .i64 (t.cs.getD j 0)) := by
          rcases hAt.2.1.2.2.2 with h4 | ⟨bg, og, ha, hc⟩
          · omega
          · exact ⟨bg, og, ha, by rw [hclt]; exact hc⟩
        have HG := Lib.hid (fun j (hj : j < G.cl) w1 (hb : Below wA.heap.size wA w1) => cell_later hb (hGc j hj))
        have HX := Lib.hid (fun j (hj : j < G.cl) w1 (hb : Below wA.heap.size wA w1) => cell_later hb (hXc j hj))
        have OT := Lib.hid (fun j (hj : j < G.cl) w1 (hb : Below wA.heap.size wA w1) => (show Calls Try.prog 13 #[.slice (some ⟨b, off, none⟩) len cap, .int .i64 j] w1 fun e w' => e = .returned (.int .i64 (otherN ts j)) ∧ w1 = w' by
          have := other_any (some ⟨b, off, none⟩) len cap ts j w1 (hI.out.kept hb) (by omega)
          rw [otherM_eq (fun u hu => by rw [okTs_len g3 ht hu, ← hclt]; exact hj)] at this
          exact this))
        have HB := Lib.hid (fun j => otherN_bounds hI.out j)
        have hfT := Lib.hid hAt.2.1.2.2.1
        have hfG := Lib.hid hG.out.2.1.2.2.1
        have hfGs := Lib.hid hG.out.1.2.2.1
        have hlG := Lib.hid hG.out.2.1.1
        have hk := Lib.hid (And.intro hk1 hk2)
        have eG' := Lib.hid eG
        have eX' := Lib.hid eX
        have hclt' := Lib.hid hclt
        clear c0 c1 g1 g2 g3 ht hE hs hwt hGw hAt hb0 hb1 r1 r2 es hclt eG eX hGc hXc hk1 hk2
        obtain ⟨j0, j1, j2, j3, j4⟩ := (J.out.kept bc.out).see
        go_wp2_with fail
        refine (PB.out _ bc.out).mono ?_
        rintro e w2 ⟨M, n, us, rfl, hus, hl, hall, hM, hrow, hmany, hb2⟩
        have hn2 : len = n := by
          have e1 := congrArg List.length hus
          rw [List.length_map, hl] at e1
          have := hlenk.out
          unfold backR at e1
          rcases hkind.out with ⟨e, -⟩ | ⟨e, -⟩ | ⟨e, -⟩
          · rw [e, if_pos rfl] at e1; simp at e1; omega
          · rw [e, if_neg (by decide)] at e1; simp at e1; omega
          · omega
        subst hn2
        have hfit : ∀ u ∈ us, Fits u.cs := by
          intro u hu
          have : u.cs ∈ backR kind k t.cs ts G.cs := by rw [← hus]; exact List.mem_map_of_mem hu
          unfold backR at this
          split at this
          · simp at this; rw [this]; exact bxL_fits hfG.out
          · simp at this
            rcases this with e | e <;> rw [e]
            · exact bxL_fits hfG.out
            · exact byL_fits hfG.out
        have hgs := gsat_of hrow (by omega) (fun u hu => by
          obtain ⟨a1, a2, a3⟩ := hall u hu
          exact (hmany.own u hu).at (by rw [a2]; exact hfGs.out) (hfit u hu) (by rw [a1]; omega) (by rw [a3]; omega))
        have b2 := Lib.hid (bc.out.trans (hb2.mono bc.out.size))
        have hall' := Lib.hid hall
        have hus' := Lib.hid hus
        clear j0 j1 j2 j3 j4 PB hb2 hrow hmany hM hall hus hfit hl
        obtain ⟨j0, j1, j2, j3, j4⟩ := (J.out.kept b2.out).see
        go_wp2_with fail
        refine (GD.out _ b2.out).mono ?_
        rintro e w3 ⟨rfl, hb3⟩
        have b3 := Lib.hid (b2.out.trans (hb3.mono b2.out.size))
        have hgs3 := Lib.hid (hgs.kept hb3)
        clear j0 j1 j2 j3 j4 GD hb3 hgs
        have SK := Lib.hid (fun w' (hb : Below w3.heap.size w3 w') => (⟨(J.out.kept (b3.out.trans (hb.mono b3.out.size))).see.2.2.1, (J.out.kept (b3.out.trans (hb.mono b3.out.size))).see.2.2.2.1, (J.out.kept (b3.out.trans (hb.mono b3.out.size))).see.2.2.2.2, F0.out w' (b3.out.trans (hb.mono b3.out.size))⟩ : w'.cell? ⟨w.heap.size, 2, none⟩ = some (.slice (some ⟨b, off, none⟩) len cap) ∧ w'.cell? ⟨w.heap.size, 3, none⟩ = some (.slice G.sa G.sl G.sc) ∧ w'.cell? ⟨w.heap.size, 4, none⟩ = some (.slice G.ca G.cl G.cc) ∧ w'.cell? ⟨b, off, none⟩ = some (.slice t.sa t.sl t.sc)))
        have t1 := Lib.hid (show Below w3.heap.size w3 w3.drew from (Below.refl _ _).drew)
        go_upto_region 5 with (fail)
        refine wp_region_held_drew (S := fun w' => w'.cell? ⟨w.heap.size, 2, none⟩ = some (.slice (some ⟨b, off, none⟩) len cap) ∧ w'.cell? ⟨w.heap.size, 3, none⟩ = some (.slice G.sa G.sl G.sc) ∧ w'.cell? ⟨w.heap.size, 4, none⟩ = some (.slice G.ca G.cl G.cc) ∧ w'.cell? ⟨b, off, none⟩ = some (.slice t.sa t.sl t.sc)) (by kernel_rfl) (SK.out _ t1.out) (fun hHeld => ?_)
        refine held_take 0 (.int .i64 0) rfl (by kernel_rfl) (by kernel_rfl) (by kernel_rfl) (fun _ _ _ h => h) (by rfl) (by intro w' hS; go_simp) (by assumption) ?_
        try simp only [Act.put, List.setIfInBounds_toArray, List.set_cons_zero, List.set_cons_succ]
        refine held_take 1 (.bool true) rfl (by kernel_rfl) (by kernel_rfl) (by kernel_rfl) (fun _ _ _ h => h) (by rfl) (by intro w' hS; go_simp) (by assumption) ?_
        try simp only [Act.put, List.setIfInBounds_toArray, List.set_cons_zero, List.set_cons_succ]
        refine held_take 2 (.bool true) rfl (by kernel_rfl) (by kernel_rfl) (by kernel_rfl) (fun _ _ _ h => h) (by rfl) (by intro w' hS; go_simp) (by assumption) ?_
        try simp only [Act.put, List.setIfInBounds_toArray, List.set_cons_zero, List.set_cons_succ]
        refine held_take 3 (.pointer (some ⟨w.heap.size, 3, none⟩)) rfl (by kernel_rfl) (by kernel_rfl) (by kernel_rfl) (fun _ _ _ h => h) (by rfl) (by intro w' hS; go_simp) (by assumption) ?_
        try simp only [Act.put, List.setIfInBounds_toArray, List.set_cons_zero, List.set_cons_succ]
        refine held_take 4 (.agg #[.slice G.sa G.sl G.sc, .slice G.ca G.cl G.cc]) rfl (by kernel_rfl) (by kernel_rfl) (by kernel_rfl) (fun _ _ _ h => h) (by rfl) (by intro w' hS; go_simp) (by assumption) ?_
        try simp only [Act.put, List.setIfInBounds_toArray, List.set_cons_zero, List.set_cons_succ]
        refine held_call 5 (by kernel_rfl) rfl (by rfl) (fun K hK => ?_)
        go_simp
        refine (RG.out w3.drew (b3.out.trans (t1.out.mono b3.out.size))).mono ?_
        rintro e w4 ⟨rfl, hb⟩
        go_wp2_with fail
        refine hK.out _ _ (SK.out w4 (t1.out.trans (hb.mono (Nat.le_refl _)))) (fun hHeld => ?_)
        try simp only [Act.put, List.setIfInBounds_toArray, List.set_cons_zero, List.set_cons_succ]
        refine held_take 6 (.bool false) rfl (by kernel_rfl) (by kernel_rfl) (by kernel_rfl) (fun _ _ _ h => h) (by rfl) (by intro w' hS; go_simp) (by assumption) ?_
        try simp only [Act.put, List.setIfInBounds_toArray, List.set_cons_zero, List.set_cons_succ]
        refine held_take 7 (.bool false) rfl (by kernel_rfl) (by kernel_rfl) (by kernel_rfl) (fun _ _ _ h => h) (by rfl) (by intro w' hS; go_simp) (by assumption) ?_
        try simp only [Act.put, List.setIfInBounds_toArray, List.set_cons_zero, List.set_cons_succ]
        refine held_take 8 (.pointer (some ⟨w.heap.size, 3, none⟩)) rfl (by kernel_rfl) (by kernel_rfl) (by kernel_rfl) (fun _ _ _ h => h) (by rfl) (by intro w' hS; go_simp) (by assumption) ?_
        try simp only [Act.put, List.setIfInBounds_toArray, List.set_cons_zero, List.set_cons_succ]
        refine held_take 9 (.pointer (some ⟨w.heap.size, 3, none⟩)) rfl (by kernel_rfl) (by kernel_rfl) (by kernel_rfl) (fun _ _ _ h => h) (by rfl) (by intro w' hS; go_simp) (by assumption) ?_
        try simp only [Act.put, List.setIfInBounds_toArray, List.set_cons_zero, List.set_cons_succ]
        refine held_take 10 (.slice G.sa G.sl G.sc) rfl (by kernel_rfl) (by kernel_rfl) (by kernel_rfl) (fun _ _ _ h => h) (by rfl) (by intro w' hS; go_simp) (by assumption) ?_
        try simp only [Act.put, List.setIfInBounds_toArray, List.set_cons_zero, List.set_cons_succ]
        refine held_take 11 (.pointer (some ⟨w.heap.size, 2, none⟩)) rfl (by kernel_rfl) (by kernel_rfl) (by kernel_rfl) (fun _ _ _ h => h) (by rfl) (by intro w' hS; go_simp) (by assumption) ?_
        try simp only [Act.put, List.setIfInBounds_toArray, List.set_cons_zero, List.set_cons_succ]
        refine held_take 12 (.slice (some ⟨b, off, none⟩) len cap) rfl (by kernel_rfl) (by kernel_rfl) (by kernel_rfl) (fun _ _ _ h => h) (by rfl) (by intro w' hS; go_simp) (by assumption) ?_
        try simp only [Act.put, List.setIfInBounds_toArray, List.set_cons_zero, List.set_cons_succ]
        refine held_take 13 (.pointer (some ⟨b, off, none⟩)) rfl (by kernel_rfl) (by kernel_rfl) (by kernel_rfl) (fun _ _ _ h => h) (by rfl) (by intro w' hS; go_simp) (by assumption) ?_
        try simp only [Act.put, List.setIfInBounds_toArray, List.set_cons_zero, List.set_cons_succ]
        refine held_take 14 (.pointer (some ⟨b, off, none⟩)) rfl (by kernel_rfl) (by kernel_rfl) (by kernel_rfl) (fun _ _ _ h => h) (by rfl) (by intro w' hS; go_simp) (by assumption) ?_
        try simp only [Act.put, List.setIfInBounds_toArray, List.set_cons_zero, List.set_cons_succ]
        refine held_take 15 (.slice t.sa t.sl t.sc) rfl (by kernel_rfl) (by kernel_rfl) (by kernel_rfl) (fun _ _ _ h => h) (by rfl) (by intro w' hS; go_simp) (by assumption) ?_
        try simp only [Act.put, List.setIfInBounds_toArray, List.set_cons_zero, List.set_cons_succ]
        refine held_call 16 (by kernel_rfl) rfl (by rfl) (fun K hK => ?_)
        go_simp
        refine (RS.out w4 (b3.out.trans ((t1.out.trans (hb.mono (Nat.le_refl _))).mono b3.out.size))).mono ?_
        rintro e w6 ⟨rfl, m, rfl⟩
        go_wp2_with fail
        refine hK.out _ _ (SK.out _ (below_drewN' (t1.out.trans (hb.mono (Nat.le_refl _))) m)) (fun hHeld => ?_)
        try simp only [Act.put, List.setIfInBounds_toArray, List.set_cons_zero, List.set_cons_succ]
        refine held_take 17 (.bool false) rfl (by kernel_rfl) (by kernel_rfl) (by kernel_rfl) (fun _ _ _ h => h) (by rfl) (by intro w' hS; go_simp) (by assumption) ?_
        try simp only [Act.put, List.setIfInBounds_toArray, List.set_cons_zero, List.set_cons_succ]
        refine held_take 18 (.bool false) rfl (by kernel_rfl) (by kernel_rfl) (by kernel_rfl) (fun _ _ _ h => h) (by rfl) (by intro w' hS; go_simp) (by assumption) ?_
        try simp only [Act.put, List.setIfInBounds_toArray, List.set_cons_zero, List.set_cons_succ]
        refine held_take 19 (.bool false) rfl (by kernel_rfl) (by kernel_rfl) (by kernel_rfl) (fun _ _ _ h => h) (by rfl) (by intro w' hS; go_simp) (by assumption) ?_
        try simp only [Act.put, List.setIfInBounds_toArray, List.set_cons_zero, List.set_cons_succ]
        refine wpAnyH_done (by kernel_rfl) ?_ _
        have b5 := Lib.hid (b3.out.trans ((below_drewN' (t1.out.trans (hb.mono (Nat.le_refl _))) m).mono b3.out.size))
        have q4 := below_drewN' (t1.out.trans (hb.mono (Nat.le_refl _))) m
        obtain ⟨W, hW⟩ : ∃ W, w4.drewN m = W := ⟨_, rfl⟩
        rw [hW] at b5 q4 ⊢
        have hgsW := Lib.hid (hgs3.out.kept q4)
        clear hW q4 hgs3 hHeld t1 hb SK RG RS F0
        obtain ⟨j0, j1, j2, j3, j4⟩ := (J.out.kept b5.out).see
        go_wp2_with fail
        go_loopw [84] (fun i wr => ∃ j : Nat, j ≤ len ∧ i = .int .i64 j ∧ Hid (∃ m, wr = W.drewN m)) (fun i _ => len - (intOf i).toNat)
        case atStart => exact ⟨0, Nat.zero_le _, rfl, Lib.hid ⟨0, rfl⟩⟩
        case round =>
          obtain ⟨j, hj, rfl, hw⟩ := hrel
          by_cases hlt : j < len
          · obtain ⟨m, hm⟩ := hw.out
            have kW : Below W.heap.size W wr := by rw [hm]; exact below_drewN' (Below.refl _ _) m
            have br := b5.out.trans (kW.mono b5.out.size)
            obtain ⟨u, hu, d0, d1, hAu⟩ := gs_at0 (hgsW.out.kept kW) hlt
            obtain ⟨a1, a2, a3⟩ := hall'.out u (List.mem_of_getElem? hu)
            have EQ := fun q => flipN5 (equal_any u.sa u.sl u.sc u.ss G.sa G.sl G.sc G.ss (wr.drewN q) (hAu.1.kept (below_drewN' (Below.refl _ _) q)) (hG.out.1.kept (below_drewN' br q)))
            rw [a2, sameL_refl5] at EQ
            have EQ' := Lib.hid EQ
            have hm' := Lib.hid hm
            rw [a3] at d1
            clear EQ kW hAu a1 a2 a3 hu hw j0 j1 j2 j3 j4 hm
            obtain ⟨j0, j1, j2, j3, j4⟩ := (J.out.kept br).see
            clear br
            go_wp2_with fail
            go_quiet ((go_at_call 11; exact EQ'.out _))
            go_wp2_with fail
            go_roundw
            case rel => exact ⟨j + 1, by omega, by go_num, Lib.hid ⟨m + nq, by rw [hm'.out, World.drewN_drewN]⟩⟩
            case measure => (simp [intOf]; try omega)
          · obtain rfl : len = j := by omega
            obtain ⟨m, hm⟩ := hw.out
            have bL := Lib.hid (show Below wA.heap.size wA wr by rw [hm]; exact below_drewN' b5.out m)
            have hgsL := Lib.hid (show GsAt wr (some ⟨M, 0, none⟩) len us by rw [hm]; exact hgsW.out.kept (below_drewN' (Below.refl _ _) m))
            obtain ⟨wL, hwL⟩ : ∃ wL, wr = wL := ⟨_, rfl⟩
            rw [hwL] at bL hgsL ⊢
            clear hm hw j0 j1 j2 j3 j4 hwL b5 hgsW
            obtain ⟨y, hy⟩ : ∃ y, G.cl = y := ⟨_, rfl⟩
            have f1 : wL.cell? ⟨b, off + 1, none⟩ = some (.slice (some ⟨bx, ox, none⟩) y t.cc) := by rw [← hy, hclt'.out, ← eX'.out]; exact F1.out wL bL.out
            have hGl8 : y ≤ 800 := by omega
            rcases hkind.out with ⟨ek, -⟩ | ⟨ek, -⟩ | ⟨ek, -⟩
            · rw [ek] at hlenk
              have ej : len = 1 := by have := hlenk.out; omega
              have hbr := hus'.out
              unfold backR at hbr
              rw [ek, if_pos rfl] at hbr
              obtain ⟨u1, rfl⟩ := List.length_eq_one_iff.1 (hgsL.out.1.trans ej)
              simp only [List.map_cons, List.map_nil, List.cons.injEq, and_true] at hbr
              obtain ⟨w1, hw1, -, d1, hA1⟩ := gs_at0 hgsL.out (j := 0) (by omega)
              obtain rfl : u1 = w1 := by simpa using hw1
              obtain ⟨-, -, a1⟩ := hall'.out u1 (by simp)
              rw [hy] at a1
              rw [a1] at d1
              have i1 := hA1.2.1
              rw [a1] at i1
              obtain ⟨g1, o1, e1, hc1⟩ : ∃ g o, u1.ca = some ⟨g, o, none⟩ ∧ ∀ j, j < y → wL.cell? ⟨g, o + j, none⟩ = some (.int .i64 (u1.cs.getD j 0)) := by
                rcases i1.2.2.2 with h4 | ⟨bg, og, ha, hc⟩
                · omega
                · exact ⟨bg, og, ha, hc⟩
              rw [e1] at d1
              have H1 := Lib.hid (fun j (hj : j < y) w1 (hb : Below wL.heap.size wL w1) => (show w1.cell? ⟨g1, o1 + j, none⟩ = some (.int .i64 (pslx kind k (t.cs.getD j 0) (otherN ts j) (G.cs.getD j 0))) by
                rw [← bxL_get (by rw [hlG.out, hy]; exact hj), ← hbr]
                exact cell_later hb (hc1 j hj)))
              have D1 := Lib.hid (fun w1 (hb : Below wL.heap.size wL w1) => cell_later hb d1)
              simp only [Nat.zero_mul, Nat.zero_add, Nat.one_mul] at D1
              have dj : decide ((1 : Int) < (len : Int)) = false := decide_eq_false (by omega)
              have ej' := Lib.hid ej
              clear ej
              clear hbr hw1 d1 hA1 a1 i1 e1 hc1 hgsL hus' hall'
              have jg := Lib.hid (fun w1 (hb : Below wA.heap.size wA w1) => (show w1.cell? ⟨w.heap.size, 4, none⟩ = some (.slice (some ⟨bg, og, none⟩) y G.cc) by rw [← hy, ← eG'.out]; exact (J.out.kept hb).see.2.2.2.2))
              rw [hy] at HG HX OT hlG hcl0 hclt'
              clear hy hGl
              obtain ⟨j0, j1, j2, j3, j4⟩ := (J.out.kept bL.out).see
              go_wp2_with fail
              clear j0 j1 j2 j3 j4
              go_loopw [117] (fun i wr => ∃ j : Nat, j ≤ y ∧ i = .int .i64 j ∧ Hid (Below wL.heap.size wL wr)) (fun i _ => y - (intOf i).toNat)
              case atStart => exact ⟨0, Nat.zero_le _, rfl, Lib.hid (Below.refl _ _)⟩
              case round =>
                obtain ⟨j, hj, rfl, hbr⟩ := hrel
                have bl := Lib.hid (bL.out.trans (hbr.out.mono bL.out.size))
                by_cases hlt : j < y
                · have hx := HX.out j hlt wr bl.out
                  have hgc := HG.out j hlt
                  have O1 := OT.out j hlt wr.drew (bl.out.trans (Below.refl _ _).drew)
                  obtain ⟨x1, x2⟩ := hfT.out.getD j
                  obtain ⟨u1', u2'⟩ := HB.out j
                  obtain ⟨s1, s2⟩ := hfG.out.getD j
                  have hq1 := H1.out j hlt
                  obtain ⟨x, hxx⟩ : ∃ x, t.cs.getD j 0 = x := ⟨_, rfl⟩
                  obtain ⟨u, hu⟩ : ∃ u, otherN ts j = u := ⟨_, rfl⟩
                  obtain ⟨s, hs⟩ : ∃ s, G.cs.getD j 0 = s := ⟨_, rfl⟩
                  rw [hxx] at hx x1 x2 hq1
                  rw [hu] at u1' u2' O1 hq1
                  rw [hs] at s1 s2 hgc hq1
                  have M5 := Lib.hid (fun w1 => refslope_any kind k x u s w1 hk.out.1 hk.out.2 x1 x2 u1' u2' s1 s2)
                  obtain ⟨p1, hp1⟩ : ∃ p1, pslx kind k x u s = p1 := ⟨_, rfl⟩
                  obtain ⟨p2, hp2⟩ : ∃ p2, psly kind x s = p2 := ⟨_, rfl⟩
                  rw [hp1, hp2] at M5
                  rw [hp1] at hq1
                  have O1' := Lib.hid O1
                  have SK := Lib.hid (fun w1 (hb : Below wr.heap.size wr w1) => (show w1.cell? ⟨w.heap.size, 0, none⟩ = some (.int .i64 kind) ∧ w1.cell? ⟨w.heap.size, 1, none⟩ = some (.int .i64 k) ∧ w1.cell? ⟨w.heap.size, 2, none⟩ = some (.slice (some ⟨b, off, none⟩) len cap) ∧ w1.cell? ⟨w.heap.size, 4, none⟩ = some (.slice (some ⟨bg, og, none⟩) y G.cc) ∧ w1.cell? ⟨bg, og + j, none⟩ = some (.int .i64 s) from ⟨(J.out.kept (bl.out.trans (hb.mono bl.out.size))).see.1, (J.out.kept (bl.out.trans (hb.mono bl.out.size))).see.2.1, (J.out.kept (bl.out.trans (hb.mono bl.out.size))).see.2.2.1, jg.out w1 (bl.out.trans (hb.mono bl.out.size)), hgc w1 (bl.out.trans (hb.mono bl.out.size))⟩))
                  have t1 := Lib.hid (show Below wr.heap.size wr wr.drew from (Below.refl _ _).drew)
                  have v0 := SK.out _ (Below.refl _ _)
                  have v1 := SK.out _ t1.out
                  have hq1' := Lib.hid hq1
                  clear O1 hxx hu hs hp1 hp2 x1 x2 u1' u2' s1 s2 hgc hq1
                  go_wp2_with fail
                  go_region_held3 (fun w' => w'.cell? ⟨w.heap.size, 0, none⟩ = some (.int .i64 kind) ∧ w'.cell? ⟨w.heap.size, 1, none⟩ = some (.int .i64 k) ∧ w'.cell? ⟨w.heap.size, 2, none⟩ = some (.slice (some ⟨b, off, none⟩) len cap) ∧ w'.cell? ⟨w.heap.size, 4, none⟩ = some (.slice (some ⟨bg, og, none⟩) y G.cc) ∧ w'.cell? ⟨bg, og + j, none⟩ = some (.int .i64 s))
                    (first | exact v0 | exact v1 | exact v2 | go_keep)
                    (first
                      | (go_at_call 13; refine O1'.out.mono ?_; rintro e w5 ⟨rfl, rfl⟩)
                      | (go_at_call 17; refine (M5.out _).mono ?_; rintro e w6 ⟨rfl, hb6⟩; have v2 := SK.out w6 (t1.out.trans (hb6.mono (Nat.le_refl _))); have hb6' := Lib.hid hb6; clear hb6))
                  have q6 := Lib.hid (hbr.out.trans ((t1.out.trans (hb6'.out.mono (Nat.le_refl _))).mono hbr.out.size))
                  have x1 := D1.out w6 q6.out
                  have z1 := hq1'.out w6 q6.out
                  go_wp2_with fail
                  go_roundw
                  case rel => exact ⟨j + 1, by omega, by go_num, q6⟩
                  case measure => (simp [intOf]; try omega)
                · obtain rfl : j = y := by omega
                  go_wp2_with fail
                  refine (awake05_any _).mono ?_
                  rintro e w9 ⟨rfl, hb9⟩
                  go_wp2_with fail
                  go_ret
                  exact ⟨rfl, zA.out.trans ((bl.out.trans (hb9.mono bl.out.size)).mono zA.out.size)⟩
            · rw [ek] at hlenk
              have ej : len = 2 := by have := hlenk.out; omega
              have hbr := hus'.out
              unfold backR at hbr
              rw [ek, if_neg (by decide)] at hbr
              obtain ⟨u1, u2, rfl⟩ : ∃ v1 v2, us = [v1, v2] := by
                match us, hgsL.out.1.trans ej with
                | [x, y], _ => exact ⟨x, y, rfl⟩
              simp only [List.map_cons, List.map_nil, List.cons.injEq, and_true] at hbr
              obtain ⟨w1, hw1, -, d1, hA1⟩ := gs_at0 hgsL.out (j := 0) (by omega)
              obtain rfl : u1 = w1 := by simpa using hw1
              obtain ⟨-, -, a1⟩ := hall'.out u1 (by simp)
              rw [hy] at a1
              rw [a1] at d1
              have i1 := hA1.2.1
              rw [a1] at i1
              obtain ⟨g1, o1, e1, hc1⟩ : ∃ g o, u1.ca = some ⟨g, o, none⟩ ∧ ∀ j, j < y → wL.cell? ⟨g, o + j, none⟩ = some (.int .i64 (u1.cs.getD j 0)) := by
                rcases i1.2.2.2 with h4 | ⟨bg, og, ha, hc⟩
                · omega
                · exact ⟨bg, og, ha, hc⟩
              rw [e1] at d1
              have H1 := Lib.hid (fun j (hj : j < y) w1 (hb : Below wL.heap.size wL w1) => (show w1.cell? ⟨g1, o1 + j, none⟩ = some (.int .i64 (pslx kind k (t.cs.getD j 0) (otherN ts j) (G.cs.getD j 0))) by
                rw [← bxL_get (by rw [hlG.out, hy]; exact hj), ← hbr.1]
                exact cell_later hb (hc1 j hj)))
              have D1 := Lib.hid (fun w1 (hb : Below wL.heap.size wL w1) => cell_later hb d1)
              simp only [Nat.zero_mul, Nat.zero_add, Nat.one_mul] at D1
              obtain ⟨w2, hw2, -, d2, hA2⟩ := gs_at0 hgsL.out (j := 1) (by omega)
              obtain rfl : u2 = w2 := by simpa using hw2
              obtain ⟨-, -, a2⟩ := hall'.out u2 (by simp)
              rw [hy] at a2
              rw [a2] at d2
              have i2 := hA2.2.1
              rw [a2] at i2
              obtain ⟨g2, o2, e2, hc2⟩ : ∃ g o, u2.ca = some ⟨g, o, none⟩ ∧ ∀ j, j < y → wL.cell? ⟨g, o + j, none⟩ = some (.int .i64 (u2.cs.getD j 0)) := by
                rcases i2.2.2.2 with h4 | ⟨bg, og, ha, hc⟩
                · omega
                · exact ⟨bg, og, ha, hc⟩
              rw [e2] at d2
              have H2 := Lib.hid (fun j (hj : j < y) w1 (hb : Below wL.heap.size wL w1) => (show w1.cell? ⟨g2, o2 + j, none⟩ = some (.int .i64 (psly kind (t.cs.getD j 0) (G.cs.getD j 0))) by
                rw [← byL_get (by rw [hlG.out, hy]; exact hj), ← hbr.2]
                exact cell_later hb (hc2 j hj)))
              have D2 := Lib.hid (fun w1 (hb : Below wL.heap.size wL w1) => cell_later hb d2)
              simp only [Nat.zero_mul, Nat.zero_add, Nat.one_mul] at D2
              have dj : decide ((1 : Int) < (len : Int)) = true := decide_eq_true (by omega)
              have hj1 : 1 < len := by omega
              have ej' := Lib.hid ej
              clear ej
              clear hbr hw1 d1 hA1 a1 i1 e1 hc1 hw2 d2 hA2 a2 i2 e2 hc2 hgsL hus' hall'
              have jg := Lib.hid (fun w1 (hb : Below wA.heap.size wA w1) => (show w1.cell? ⟨w.heap.size, 4, none⟩ = some (.slice (some ⟨bg, og, none⟩) y G.cc) by rw [← hy, ← eG'.out]; exact (J.out.kept hb).see.2.2.2.2))
              rw [hy] at HG HX OT hlG hcl0 hclt'
              clear hy hGl
              obtain ⟨j0, j1, j2, j3, j4⟩ := (J.out.kept bL.out).see
              go_wp2_with fail
              clear j0 j1 j2 j3 j4
              go_loopw [117] (fun i wr => ∃ j : Nat, j ≤ y ∧ i = .int .i64 j ∧ Hid (Below wL.heap.size wL wr)) (fun i _ => y - (intOf i).toNat)
              case atStart => exact ⟨0, Nat.zero_le _, rfl, Lib.hid (Below.refl _ _)⟩
              case round =>
                obtain ⟨j, hj, rfl, hbr⟩ := hrel
                have bl := Lib.hid (bL.out.trans (hbr.out.mono bL.out.size))
                by_cases hlt : j < y
                · have hx := HX.out j hlt wr bl.out
                  have hgc := HG.out j hlt
                  have O1 := OT.out j hlt wr.drew (bl.out.trans (Below.refl _ _).drew)
                  obtain ⟨x1, x2⟩ := hfT.out.getD j
                  obtain ⟨u1', u2'⟩ := HB.out j
                  obtain ⟨s1, s2⟩ := hfG.out.getD j
                  have hq1 := H1.out j hlt
                  have hq2 := H2.out j hlt
                  obtain ⟨x, hxx⟩ : ∃ x, t.cs.getD j 0 = x := ⟨_, rfl⟩
                  obtain ⟨u, hu⟩ : ∃ u, otherN ts j = u := ⟨_, rfl⟩
                  obtain ⟨s, hs⟩ : ∃ s, G.cs.getD j 0 = s := ⟨_, rfl⟩
                  rw [hxx] at hx x1 x2 hq1 hq2
                  rw [hu] at u1' u2' O1 hq1
                  rw [hs] at s1 s2 hgc hq1 hq2
                  have M5 := Lib.hid (fun w1 => refslope_any kind k x u s w1 hk.out.1 hk.out.2 x1 x2 u1' u2' s1 s2)
                  obtain ⟨p1, hp1⟩ : ∃ p1, pslx kind k x u s = p1 := ⟨_, rfl⟩
                  obtain ⟨p2, hp2⟩ : ∃ p2, psly kind x s = p2 := ⟨_, rfl⟩
                  rw [hp1, hp2] at M5
                  rw [hp1] at hq1
                  rw [hp2] at hq2
                  have O1' := Lib.hid O1
                  have SK := Lib.hid (fun w1 (hb : Below wr.heap.size wr w1) => (show w1.cell? ⟨w.heap.size, 0, none⟩ = some (.int .i64 kind) ∧ w1.cell? ⟨w.heap.size, 1, none⟩ = some (.int .i64 k) ∧ w1.cell? ⟨w.heap.size, 2, none⟩ = some (.slice (some ⟨b, off, none⟩) len cap) ∧ w1.cell? ⟨w.heap.size, 4, none⟩ = some (.slice (some ⟨bg, og, none⟩) y G.cc) ∧ w1.cell? ⟨bg, og + j, none⟩ = some (.int .i64 s) from ⟨(J.out.kept (bl.out.trans (hb.mono bl.out.size))).see.1, (J.out.kept (bl.out.trans (hb.mono bl.out.size))).see.2.1, (J.out.kept (bl.out.trans (hb.mono bl.out.size))).see.2.2.1, jg.out w1 (bl.out.trans (hb.mono bl.out.size)), hgc w1 (bl.out.trans (hb.mono bl.out.size))⟩))
                  have t1 := Lib.hid (show Below wr.heap.size wr wr.drew from (Below.refl _ _).drew)
                  have v0 := SK.out _ (Below.refl _ _)
                  have v1 := SK.out _ t1.out
                  have hq1' := Lib.hid hq1
                  have hq2' := Lib.hid hq2
                  clear O1 hxx hu hs hp1 hp2 x1 x2 u1' u2' s1 s2 hgc hq1 hq2
                  go_wp2_with fail
                  go_region_held3 (fun w' => w'.cell? ⟨w.heap.size, 0, none⟩ = some (.int .i64 kind) ∧ w'.cell? ⟨w.heap.size, 1, none⟩ = some (.int .i64 k) ∧ w'.cell? ⟨w.heap.size, 2, none⟩ = some (.slice (some ⟨b, off, none⟩) len cap) ∧ w'.cell? ⟨w.heap.size, 4, none⟩ = some (.slice (some ⟨bg, og, none⟩) y G.cc) ∧ w'.cell? ⟨bg, og + j, none⟩ = some (.int .i64 s))
                    (first | exact v0 | exact v1 | exact v2 | go_keep)
                    (first
                      | (go_at_call 13; refine O1'.out.mono ?_; rintro e w5 ⟨rfl, rfl⟩)
                      | (go_at_call 17; refine (M5.out _).mono ?_; rintro e w6 ⟨rfl, hb6⟩; have v2 := SK.out w6 (t1.out.trans (hb6.mono (Nat.le_refl _))); have hb6' := Lib.hid hb6; clear hb6))
                  have q6 := Lib.hid (hbr.out.trans ((t1.out.trans (hb6'.out.mono (Nat.le_refl _))).mono hbr.out.size))
                  have x1 := D1.out w6 q6.out
                  have z1 := hq1'.out w6 q6.out
                  have x2 := D2.out w6 q6.out
                  have z2 := hq2'.out w6 q6.out
                  go_wp2_with fail
                  go_roundw
                  case rel => exact ⟨j + 1, by omega, by go_num, q6⟩
                  case measure => (simp [intOf]; try omega)
                · obtain rfl : j = y := by omega
                  go_wp2_with fail
                  refine (awake05_any _).mono ?_
                  rintro e w9 ⟨rfl, hb9⟩
                  go_wp2_with fail
                  go_ret
                  exact ⟨rfl, zA.out.trans ((bl.out.trans (hb9.mono bl.out.size)).mono zA.out.size)⟩
            · have := hlenk.out
              rw [ek] at this
              omega
    · have PB := fun w1 (hb : Below wA.heap.size wA w1) => pback_no1 kind k G a len cap ts w1 (hI.out.kept hb) hE
      obtain ⟨x, hx⟩ : ∃ x, faultE kind ts = x := ⟨_, rfl⟩
      rw [hx] at hE GD
      simp only [hx] at PB
      have PB' := Lib.hid PB
      have hx0 : (x == 0) = false := beq_eq_false_iff_ne.2 hE
      clear hx PB hs hwt hGw hE hGl
      obtain ⟨j0, j1, j2, j3, j4⟩ := (J.out.kept bc.out).see
      go_wp2_with fail
      refine (PB'.out _ bc.out).mono ?_
      rintro e w2 ⟨rfl, hb2⟩
      have b2 := Lib.hid (bc.out.trans (hb2.mono bc.out.size))
      clear j0 j1 j2 j3 j4 PB' hb2
      obtain ⟨j0, j1, j2, j3, j4⟩ := (J.out.kept b2.out).see
      go_wp2_with fail
      refine (GD.out _ b2.out).mono ?_
      rintro e w3 ⟨rfl, hb3⟩
      have b3 := Lib.hid (b2.out.trans (hb3.mono b2.out.size))
      clear j0 j1 j2 j3 j4 GD hb3
      obtain ⟨j0, j1, j2, j3, j4⟩ := (J.out.kept b3.out).see
      go_wp2_with fail
      go_quiet (fail)
      go_wp2_with fail
      have b4 := Lib.hid (below_drewN' b3.out nq)
      refine (awake05_any _).mono ?_
      rintro e w9 ⟨rfl, hb9⟩
      go_wp2_with fail
      go_ret
      exact ⟨rfl, zA.out.trans ((b4.out.trans (hb9.mono b4.out.size)).mono zA.out.size)⟩

theorem pointBacks_walk (kind k : Int) (a : Option Addr) (len cap : Nat) (ts : List TV) (G : TV) (w : World) (p : -9223372036854775808 ≤ kind ∧ kind ≤ 9223372036854775807) (q : -9223372036854775808 ≤ k ∧ k ≤ 9223372036854775807) (g : GsAt w a len ts) (h : G.At w) (l : len ≤ 2932031007317 ∧ (a = none → len = 0 ∧ cap = 0)) :
    Calls Try.prog 4 #[.agg #[.int .i64 kind, .int .i64 k, .slice a len cap, .slice G.sa G.sl G.sc, .slice G.ca G.cl G.cc]] w fun e w' => e = .returned (.bool true) ∧ Below w.heap.size w w' :=
  pointBacks_core kind k a len cap ts G w q.1 q.2 g h l.1 l.2
end Go.Proofs.Ytilocmdanjekhaa
