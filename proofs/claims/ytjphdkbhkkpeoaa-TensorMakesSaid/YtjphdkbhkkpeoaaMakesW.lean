/-
  The walk of the statement TensorMakes.
-/
import Derived.Test.YtjphdkbhkkpeoaaTenI
namespace Go.Proofs.Ytjphdkbhkkpeoaa
open Go.RowKit
set_option linter.unusedVariables false
set_option linter.unusedSimpArgs false

set_option maxHeartbeats 2000000 in
theorem makes_long (sa : Option Addr) (sl sc : Nat) (ca : Option Addr) (cl cc : Nat) (x : Int) (w : World) (h : sl ≤ 9223372036854775807) (hl : cl ≤ 9223372036854775807) (hr : smallT sl cl = false) :
    Calls Try.prog 3 #[.agg #[.slice sa sl sc, .slice ca cl cc], .int .i64 x] w fun e w' => e = .returned (.bool true) ∧ Below w.heap.size w w' := by
  obtain ⟨wA, hwA, J, z, n1⟩ := grid_box w (.slice sa sl sc) (.slice ca cl cc)
  have C := small_any sa sl sc ca cl cc wA h hl
  rw [hr] at C
  have C1 := Lib.hid C
  clear C h hl hr
  obtain ⟨j0, j1, -, -⟩ := J.out.see
  go_enter Try.func3, Try.ntmps3
  go_upto_region 1 with (fail)
  rw [hwA.out]
  go_wp2_with fail
  refine C1.out.mono ?_
  rintro e w1 ⟨rfl, hb1⟩
  go_wp2_with fail
  refine (awake04_any _).mono ?_
  rintro e w2 ⟨rfl, hb2⟩
  go_wp2_with fail
  go_ret
  exact ⟨rfl, z.out.trans ((hb1.trans (hb2.mono hb1.size)).mono z.out.size)⟩

set_option maxRecDepth 100000 in
set_option maxHeartbeats 8000000 in
theorem makes_small (sa : Option Addr) (sl sc : Nat) (ss : List Int) (ca : Option Addr) (cl cc : Nat) (cs : List Int) (x : Int) (w : World) (h : IntsAt w sa sl ss) (hc : IntsAt w ca cl cs) (hs : sl ≤ 50) (hl : cl ≤ 600)
    (hx1 : -9223372036854775808 ≤ x) (hx2 : x ≤ 9223372036854775807) :
    Calls Try.prog 3 #[.agg #[.slice sa sl sc, .slice ca cl cc], .int .i64 x] w fun e w' => e = .returned (.bool true) ∧ Below w.heap.size w w' := by
  obtain ⟨wA, hwA, J, z, n1⟩ := grid_box w (.slice sa sl sc) (.slice ca cl cc)
  have C := small_any sa sl sc ca cl cc wA h.2.1 hc.2.1
  rw [show smallT sl cl = true by simp [smallT, hs, hl]] at C
  have C1 := Lib.hid C
  have H := Lib.hid (fun w1 (hb : Below wA.heap.size wA w1) => (h.kept z.out).kept hb)
  have HC := Lib.hid (fun w1 (hb : Below wA.heap.size wA w1) => (hc.kept z.out).kept hb)
  have HX := Lib.hid (And.intro hx1 hx2)
  have HS := Lib.hid (And.intro hs hl)
  have hcl := Lib.hid hc.1
  have hfc := Lib.hid hc.2.2.1
  have hsl := Lib.hid h.1
  clear C h hc hs hl hx1 hx2
  obtain ⟨j0, j1, -, -⟩ := J.out.see
  go_enter Try.func3, Try.ntmps3
  go_upto_region 1 with (fail)
  rw [hwA.out]
  go_wp2_with fail
  refine C1.out.mono ?_
  rintro e w0 ⟨rfl, hb0⟩
  obtain ⟨k0, k1, -, -⟩ := (J.out.kept hb0).see
  have hb0' := Lib.hid hb0
  clear j0 j1 C1 hb0
  go_wp2_with fail
  refine (make_any sa sl sc ss x w0 (H.out _ hb0'.out) HX.out.1 HX.out.2).mono ?_
  rintro e w1 ⟨A1, a1, d1, A2, a2, d2, rfl, hS1, hC1, hb1⟩
  obtain ⟨w2, hw2, Ja, x2, n2⟩ := grid_box w1 (.slice A1 a1 d1) (.slice A2 a2 d2)
  have q2 := Lib.hid (hb0'.out.trans ((hb1.trans (x2.out.mono hb1.size)).mono hb0'.out.size))
  have hS2 := Lib.hid (hS1.kept x2.out)
  have hC2 := Lib.hid (hC1.kept x2.out)
  clear hS1 hC1 hb1 k0 k1
  go_upto_region 4 with (fail)
  rw [hw2.out]
  obtain ⟨k0, k1, -, -⟩ := (J.out.kept q2.out).see
  go_wp2_with fail
  refine (of_any sa sl sc ss ca cl cc cs w2 (H.out _ q2.out) (Nat.le_trans HS.out.1 (by omega)) (HC.out _ q2.out) (Nat.le_trans HS.out.2 (by omega))).mono ?_
  rintro e w3 ⟨A3, a3, d3, A4, a4, d4, rfl, hS3, hC3, hb3⟩
  obtain ⟨w4, hw4, Jb, x4, n4⟩ := grid_box w3 (.slice A3 a3 d3) (.slice A4 a4 d4)
  have r4 := hb3.trans (x4.out.mono hb3.size)
  have q4 := Lib.hid (q2.out.trans (r4.mono q2.out.size))
  have hS4 := Lib.hid (hS3.kept x4.out)
  have hC4 := Lib.hid (hC3.kept x4.out)
  have hSa := Lib.hid (hS2.out.kept r4)
  have hCa := Lib.hid (hC2.out.kept r4)
  have Ja4 := Lib.hid (Ja.out.kept r4)
  clear hS3 hC3 hb3 k0 k1 r4 Ja hS2 hC2
  go_upto_region 5 with (fail)
  rw [hw4.out]
  obtain ⟨k0, k1, -, -⟩ := (J.out.kept q4.out).see
  go_wp2_with fail
  refine (tcopy_any sa sl sc ss ca cl cc cs w4 (H.out _ q4.out) (Nat.le_trans HS.out.1 (by omega)) (HC.out _ q4.out) (Nat.le_trans HS.out.2 (by omega))).mono ?_
  rintro e w5 ⟨v', rfl, A5, d5, A6, d6, rfl, o5, o6, hne, hb5⟩
  obtain ⟨w6, hw6, Jc, x6, n6⟩ := grid_box w5 (.slice A5 sl d5) (.slice A6 cl d6)
  have r6 := Lib.hid (hb5.trans (x6.out.mono hb5.size))
  have q6 := Lib.hid (q4.out.trans (r6.out.mono q4.out.size))
  have o6' := Lib.hid (row_kept o6 x6.out)
  have o5' := Lib.hid (row_kept o5 x6.out)
  obtain ⟨g, hg1, -, hg2, hg3⟩ := row_block o6 (M := w5.heap.size + 1) (by omega)
  have hgB := Lib.hid (show w4.heap.size ≤ g ∧ g ≠ w5.heap.size by
    cases A6 with
    | none => have := hg2 rfl; have := hb5.size; omega
    | some q => have := hg3 q rfl; omega)
  have hg1' := Lib.hid hg1
  have hsC := Lib.hid (row_ints o5'.out (Nat.le_trans HS.out.1 (by omega)) ((H.out _ q4.out).2.2.1))
  have hcC := Lib.hid (row_ints o6'.out (Nat.le_trans HS.out.2 (by omega)) hfc.out)
  clear o5 o6 hne hb5 k0 k1 hg1 hg2 hg3
  go_upto_region 6 with (fail)
  rw [hw6.out]
  have SK := Lib.hid (fun w' (hb : Below w6.heap.size w6 w') => (⟨((J.out.kept q6.out).kept hb).see.1, ((J.out.kept q6.out).kept hb).see.2.1, (Jc.out.kept hb).see.1, (Jc.out.kept hb).see.2.1⟩ :
    w'.cell? ⟨w.heap.size, 0, none⟩ = some (.slice sa sl sc) ∧ w'.cell? ⟨w.heap.size, 1, none⟩ = some (.slice ca cl cc) ∧ w'.cell? ⟨w5.heap.size, 0, none⟩ = some (.slice A5 sl d5) ∧ w'.cell? ⟨w5.heap.size, 1, none⟩ = some (.slice A6 cl d6)))
  have R1 := fun w1 (hb : Below w6.heap.size w6 w1) => tright_any sa sl sc ss ca cl cc w1 (H.out _ (q6.out.trans (hb.mono q6.out.size))) (Nat.le_trans HS.out.2 (by omega))
  have R2 := fun w1 (hb : Below w6.heap.size w6 w1) => refright_any sa sl sc ss ca cl cc w1 (H.out _ (q6.out.trans (hb.mono q6.out.size))) (Nat.le_trans HS.out.2 (by omega))
  have R3 := fun w1 (hb : Below w6.heap.size w6 w1) => tequal_any A5 sl d5 ss A6 cl d6 cs sa sl sc ss ca cl cc cs w1 (hsC.out.kept hb) (hcC.out.kept hb) (H.out _ (q6.out.trans (hb.mono q6.out.size))) (HC.out _ (q6.out.trans (hb.mono q6.out.size)))
  have e3 : sameT ss cs ss cs = true := by simp [sameT, sameL_self]
  rw [e3] at R3
  obtain ⟨rT, hrT⟩ : ∃ b, rightT ss cl = b := ⟨_, rfl⟩
  rw [hrT] at R1 R2
  have hrT' := Lib.hid hrT
  have r1 := Lib.hid R1
  have r2 := Lib.hid R2
  have r3 := Lib.hid R3
  have t0 : Below w6.heap.size w6 w6.drew := (Below.refl _ _).drew
  have u0 := SK.out _ (Below.refl _ _)
  have u1 := SK.out _ t0
  have t0' := Lib.hid t0
  clear R1 R2 R3 e3 hrT t0
  go_region_held3 (fun w' => w'.cell? ⟨w.heap.size, 0, none⟩ = some (.slice sa sl sc) ∧ w'.cell? ⟨w.heap.size, 1, none⟩ = some (.slice ca cl cc) ∧ w'.cell? ⟨w5.heap.size, 0, none⟩ = some (.slice A5 sl d5) ∧ w'.cell? ⟨w5.heap.size, 1, none⟩ = some (.slice A6 cl d6))
    (first | exact u0 | exact u1 | exact u7 | exact u8 | exact u9 | go_keep)
    ((first
      | (go_at_call 13; refine (r1.out _ t0'.out).mono ?_; rintro e w7 ⟨rfl, hb7⟩; have b7 := Lib.hid (t0'.out.trans (hb7.mono (Nat.le_refl _))); have u7 := SK.out w7 b7.out)
      | (go_at_call 14; refine (r2.out _ b7.out).mono ?_; rintro e w8 ⟨rfl, hb8⟩; have b8 := Lib.hid (b7.out.trans (hb8.mono b7.out.size)); have u8 := SK.out w8 b8.out)
      | (go_at_call 15; refine (r3.out _ b8.out).mono ?_; rintro e w9 ⟨rfl, hb9⟩; have b9 := Lib.hid (b8.out.trans (hb9.mono b8.out.size)); have u9 := SK.out w9 b9.out)))
  rename_i hHeld
  clear hHeld u0 u1 u7 u8 u9 hb7 hb8 hb9 b7 b8 r1 r2 r3 SK
  have Jc9 := Jc.out.kept b9.out
  obtain ⟨c0, c1, -, -⟩ := Jc9.see
  have q9 := Lib.hid (q6.out.trans (b9.out.mono q6.out.size))
  have o9 := Lib.hid (show w9.ownsRow w4.heap.size 27 1 (.slice A6 cl d6) cl ((mixR (incL cs) cs 0).map (Value.int .i64)) by rw [mixR_zero]; exact row_kept o6'.out b9.out)
  have hwg := Lib.hid (show wA.heap.size ≤ g from Nat.le_trans q4.out.size hgB.out.1)
  have Jc9' := Lib.hid Jc9
  clear Jc9 o6' o5' hsC hcC q2
  go_wp2_with fail
  go_loopw [48] (fun i wr => ∃ k : Nat, k ≤ cl ∧ i = .int .i64 k ∧ Hid (wr.ownsRow w4.heap.size 27 1 (.slice A6 cl d6) cl ((mixR (incL cs) cs k).map (Value.int .i64))) ∧ Hid (Only g w9 wr)) (fun i _ => cl - (intOf i).toNat)
  case atStart => exact ⟨0, Nat.zero_le _, rfl, o9, Lib.hid (Only.refl _ _)⟩
  case round =>
    obtain ⟨k, hk, rfl, hrow, hon⟩ := hrel
    have JL := hon.out.gat Jc9'.out (Ne.symm hgB.out.2)
    have qr := hon.out.below q9.out hwg.out
    have JT := J.out.kept qr
    obtain ⟨l0, l1, -, -⟩ := JL.see
    have h6 := HS.out.2
    by_cases hlt : k < cl
    · obtain ⟨g', d6', hv⟩ := Joins.ownsRow_form hrow.out (by omega)
      simp only [Value.slice.injEq] at hv
      obtain ⟨rfl, -, rfl⟩ := hv
      have eg := hg1'.out _ rfl
      simp only [Addr.mk.injEq, and_true] at eg
      subst eg
      obtain ⟨y, hy⟩ : ∃ y, cs.getD k 0 = y := ⟨_, rfl⟩
      have hcell : wr.cell? ⟨g', k, none⟩ = some (.int .i64 y) := by
        have e : wr.cell? ⟨g', k, none⟩ = ((mixR (incL cs) cs k).map (Value.int .i64))[k]? := hrow.out.cellAt k (by omega)
        rw [List.getElem?_map, mixR_get (incL_length cs) (by rw [hcl.out]; exact hlt), hy] at e
        exact e
      have hf := hrow.out.frozenAt k
      obtain ⟨m, hm⟩ : ∃ m, wrap64 (y + 1) = m := ⟨_, rfl⟩
      have hm2 : (incL cs).getD k 0 = m := by rw [incL_get (by rw [hcl.out]; exact hlt), hy, hm]
      have hw1 : IntKind.i64.wrap (y + 1) = m := by rw [← hm]; simp [IntKind.wrap_i64, wrap64]
      obtain ⟨ho4, hg4⟩ := hrow.out.stored k (.int .i64 m)
      rw [← hm2, ← List.map_set, mixR_set (incL_length cs) (by rw [hcl.out]; exact hlt), hm2] at ho4
      have ho4' := Lib.hid ho4
      have hon4 := hon.out.setCell k (.int .i64 m)
      have hb4 := Lib.hid hon4
      have qr4 := hon4.below q9.out hwg.out
      obtain ⟨b, off, rfl, hct⟩ : ∃ b off, ca = some ⟨b, off, none⟩ ∧ (wr.setCell ⟨g', k, none⟩ (.int .i64 m)).cell? ⟨b, off + k, none⟩ = some (.int .i64 y) := by
        rcases (HC.out _ qr4).2.2.2 with h4 | ⟨b, off, ha, hcc⟩
        · omega
        · refine ⟨b, off, ha, ?_⟩
          rw [hcc k hlt, hy]
      obtain ⟨W, hW⟩ : ∃ W, wr.setCell ⟨g', k, none⟩ (.int .i64 m) = W := ⟨_, rfl⟩
      have hcW : W.cell? ⟨g', k, none⟩ = some (.int .i64 m) := by
        have e := ho4.cellAt k (by omega)
        rw [List.getElem?_map, ← mixR_set (incL_length cs) (by rw [hcl.out]; exact hlt), List.getElem?_set_self (by rw [mixR_length (incL_length cs) (by rw [incL_length, hcl.out]; omega), hcl.out]; exact hlt), hm2, hW] at e
        exact e
      obtain ⟨v0, v1, -, -⟩ := (hon4.gat Jc9'.out (Ne.symm hgB.out.2)).see
      obtain ⟨t0, t1, -, -⟩ := (J.out.kept qr4).see
      rw [hW] at ho4' hb4 hct v0 v1 t0 t1
      clear ho4 hg4 hm2 hy JL JT qr qr4 hon4
      go_upto_region 12 with (fail)
      clear hW
      go_quiet (fail)
      go_wp2_with fail
      go_roundw
      case rel => exact ⟨k + 1, by omega, by go_num, ho4', Lib.hid (hb4.out.drewN _)⟩
      case measure => (simp [intOf]; try omega)
    · obtain rfl : k = cl := by omega
      have h4r := hon.out.below (r6.out.trans (b9.out.mono r6.out.size)) hgB.out.1
      have hS4' := Lib.hid (hS4.out.kept h4r)
      have hC4' := Lib.hid (hC4.out.kept h4r)
      have hSa' := Lib.hid (hSa.out.kept h4r)
      have hCa' := Lib.hid (hCa.out.kept h4r)
      have Ja' := Lib.hid (Ja4.out.kept h4r)
      have Jb' := Lib.hid (Jb.out.kept h4r)
      have JT' := Lib.hid JT
      have hSt := Lib.hid (H.out _ qr)
      have hCt := Lib.hid (HC.out _ qr)
      have qr' := Lib.hid qr
      have ht := (hrT'.out : rightT ss k = rT)
      have hR := refshape_any sa sl sc ss wr hSt.out
      clear h4r qr JL JT l0 l1 hrow hS4 hC4 hSa hCa Ja4 Jb
      obtain ⟨m0, m1, -, -⟩ := JT'.out.see
      cases b : rightS ss
      · have ht0 : rT = false := by rw [← ht]; exact (rightT_no b).symm
        subst ht0
        rw [b] at hSa' hCa' hR
        rw [ht] at hS4' hC4'
        have ea : a2 = 0 := by have := hCa'.out.1; simpa [okL] using this.symm
        subst ea
        have hR' := Lib.hid hR
        have E1 : okE (rightS ss) = 20 := by rw [b]; rfl
        have E2 : okE (rightT ss k) = 20 := by rw [ht]; rfl
        rw [b] at E1
        rw [ht] at E2
        simp only [b, ht, E1, E2]
        clear hR b ht E1 E2
        go_wp2_with fail
        refine hR'.out.mono ?_
        rintro e wq ⟨rfl, rfl⟩
        obtain ⟨p0, p1, -, -⟩ := Ja'.out.see
        go_wp2_with fail
        refine (awake04_any _).mono ?_
        rintro e w10 ⟨rfl, hb10⟩
        go_wp2_with fail
        go_ret
        exact ⟨rfl, z.out.trans ((qr'.out.trans (hb10.mono qr'.out.size)).mono z.out.size)⟩
      · rw [b] at hSa' hCa' hR
        obtain ⟨N, hN⟩ : ∃ N : Nat, prodI ss = N := ⟨(prodI ss).toNat, by have := prodI_pos (rightS_parts b).2.2.1; omega⟩
        have hN6 : N ≤ 65536 := by have := (rightS_parts b).2.2.2; omega
        rw [hN, Int.toNat_natCast] at hCa'
        have hSa2 : IntsAt wr A1 a1 ss := hSa'.out
        have hCa2 : IntsAt wr A2 a2 (List.replicate N x) := hCa'.out
        have ea : a2 = N := by have := hCa2.1; simpa using this.symm
        subst ea
        have hR' := Lib.hid hR
        have kd := fun n => (below_drewN' (Below.refl wr.heap.size wr) n)
        have SZ := fun n => flipW (refsize_any sa sl sc ss (wr.drewN n) (hSt.out.kept (kd n)) b)
        rw [hN] at SZ
        have SZ' := Lib.hid SZ
        have EQ0 := fun n => equal_any A1 a1 d1 ss sa sl sc ss (wr.drewN n) (hSa2.kept (kd n)) (hSt.out.kept (kd n))
        have EQ := fun n => flipN (EQ0 n)
        rw [sameL_self] at EQ
        have EQ' := Lib.hid EQ
        have CC := Lib.hid (fun j (hj : j < a2) => (show ∃ bb off, A2 = some ⟨bb, off, none⟩ ∧ wr.cell? ⟨bb, off + j, none⟩ = some (.int .i64 x) by
          rcases hCa2.2.2.2 with h4 | ⟨bb, off, ha, hcc⟩
          · omega
          · exact ⟨bb, off, ha, by rw [hcc j hj]; simp [List.getD, List.getElem?_replicate, hj]⟩))
        have E1 : okE (rightS ss) = 0 := by rw [b]; rfl
        have E2 : okE (rightT ss k) = okE rT := by rw [ht]
        rw [b] at E1
        rw [ht] at hS4' hC4' E2
        simp only [b, ht, E1]
        clear hR SZ EQ EQ0 kd hSa2 hCa2 ht E1 E2 hN
        have b' := Lib.hid b
        clear b
        go_wp2_with fail
        refine hR'.out.mono ?_
        rintro e wq ⟨rfl, rfl⟩
        obtain ⟨p0, p1, -, -⟩ := Ja'.out.see
        go_wp2_with fail
        go_quiet ((first | (go_at_call 17; exact Calls.quiet_of_same (SZ'.out _)) | (go_at_call 18; exact EQ'.out _)))
        go_wp2_with fail
        obtain ⟨W, hW⟩ : ∃ W, wr.drewN nq = W := ⟨_, rfl⟩
        have qW : Below wr.heap.size wr W := by rw [← hW]; exact below_drewN' (Below.refl _ _) _
        have qW' := Lib.hid qW
        have CW := Lib.hid (fun j (hj : j < a2) => (show ∃ bb off, A2 = some ⟨bb, off, none⟩ ∧ W.cell? ⟨bb, off + j, none⟩ = some (.int .i64 x) by
          obtain ⟨bb, off, h1, h2⟩ := CC.out j hj
          exact ⟨bb, off, h1, cell_later qW h2⟩))
        have JbW := Lib.hid (Jb'.out.kept qW)
        have JTW := Lib.hid (JT'.out.kept qW)
        have hSW := Lib.hid (hS4'.out.kept qW)
        have hCW := Lib.hid (hC4'.out.kept qW)
        have hSX := Lib.hid (hSt.out.kept qW)
        have hCX := Lib.hid (hCt.out.kept qW)
        have qq := Lib.hid (z.out.trans ((qr'.out.trans (qW.mono qr'.out.size)).mono z.out.size))
        have RR := refright_any sa sl sc ss ca k cc W hSX.out (by omega)
        rw [hrT'.out] at RR
        have RR' := Lib.hid RR
        rw [hW]
        clear hW qW CC Jb' JT' Ja' hS4' hC4' hSa' hCa' hSt hCt qr' hR' SZ' EQ' m0 m1 p0 p1 RR
        go_loopw [119] (fun i wl => ∃ j : Nat, j ≤ a2 ∧ i = .int .i64 j ∧ wl = W) (fun i _ => a2 - (intOf i).toNat)
        case atStart => exact ⟨0, Nat.zero_le _, rfl, rfl⟩
        case round =>
          obtain ⟨j, hj, rfl, rfl⟩ := hrel
          by_cases hlt2 : j < a2
          · obtain ⟨bb, off, rfl, hcb⟩ := CW.out j hlt2
            go_wp2_with fail
            go_roundw
            case rel => exact ⟨j + 1, by omega, by go_num, trivial⟩
            case measure => (simp [intOf]; try omega)
          · obtain ⟨t0, t1, -, -⟩ := JTW.out.see
            cases rT
            · simp only [show okE false = 20 from rfl]
              go_wp2_with fail
              refine RR'.out.mono ?_
              rintro e w10 ⟨rfl, hb10⟩
              go_wp2_with fail
              refine (awake04_any _).mono ?_
              rintro e w11 ⟨rfl, hb11⟩
              go_wp2_with fail
              go_ret
              exact ⟨rfl, qq.out.trans ((hb10.trans (hb11.mono hb10.size)).mono qq.out.size)⟩
            · simp only [show okE true = 0 from rfl]
              have hSY := Lib.hid (show IntsAt _ A3 a3 ss from hSW.out)
              have hCY := Lib.hid (show IntsAt _ A4 a4 cs from hCW.out)
              go_wp2_with fail
              refine RR'.out.mono ?_
              rintro e w10 ⟨rfl, hb10⟩
              have EQ2 := tequal_any A3 a3 d3 ss A4 a4 d4 cs sa sl sc ss ca k cc cs w10 (hSY.out.kept hb10) (hCY.out.kept hb10) (hSX.out.kept hb10) (hCX.out.kept hb10)
              rw [show sameT ss cs ss cs = true by simp [sameT, sameL_self]] at EQ2
              have EQ3 := Lib.hid EQ2
              obtain ⟨t2, t3, -, -⟩ := (JTW.out.kept hb10).see
              obtain ⟨s2, s3, -, -⟩ := (JbW.out.kept hb10).see
              clear EQ2 t0 t1
              go_wp2_with fail
              refine EQ3.out.mono ?_
              rintro e w11 ⟨rfl, hb11⟩
              go_wp2_with fail
              refine (awake04_any _).mono ?_
              rintro e w12 ⟨rfl, hb12⟩
              go_wp2_with fail
              go_ret
              exact ⟨rfl, qq.out.trans (((hb10.trans (hb11.mono hb10.size)).trans (hb12.mono (hb10.trans (hb11.mono hb10.size)).size)).mono qq.out.size)⟩

set_option maxHeartbeats 400000 in
theorem tensorMakes_walk (sa : Option Addr) (sl sc : Nat) (ss : List Int) (ca : Option Addr) (cl cc : Nat) (cs : List Int) (x : Int) (w : World) (h : IntsAt w sa sl ss) (hc : IntsAt w ca cl cs) (hx1 : -9223372036854775808 ≤ x) (hx2 : x ≤ 9223372036854775807) :
    Calls Try.prog 3 #[.agg #[.slice sa sl sc, .slice ca cl cc], .int .i64 x] w fun e w' => e = .returned (.bool true) ∧ Below w.heap.size w w' := by
  cases b : smallT sl cl
  · exact makes_long sa sl sc ca cl cc x w h.2.1 hc.2.1 b
  · simp [smallT] at b
    exact makes_small sa sl sc ss ca cl cc cs x w h hc b.1 b.2 hx1 hx2
end Go.Proofs.Ytjphdkbhkkpeoaa
