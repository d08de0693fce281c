/-
  Contracts of package tensor: distance, blocks.
-/
import Derived.Test.YtjphdkbhkkpeoaaCollectW
import Derived.Test.YtjphdkbhkkpeoaaTenI
import Derived.Deep.RegionHeld3
namespace Go.Proofs.Ytjphdkbhkkpeoaa
open Go.RowKit
set_option linter.unusedVariables false
set_option linter.unusedSimpArgs false

theorem drop_get (zs : List Int) (a j : Nat) : (zs.drop a).getD j 0 = zs.getD (a + j) 0 := by simp [List.getD, List.getElem?_drop]

/-- A part of a slice reads as the part of its list. -/
theorem IntsAt.drop {w : World} {b off len : Nat} {zs : List Int} (h : IntsAt w (some ⟨b, off, none⟩) len zs) (a : Nat) (ha : a ≤ len) : IntsAt w (some ⟨b, off + a, none⟩) (len - a) (zs.drop a) := by
  obtain ⟨h1, h2, h3, h4⟩ := h
  refine ⟨by rw [List.length_drop, h1], by omega, fun n hn => h3 n (List.mem_of_mem_drop hn), ?_⟩
  rcases h4 with h4 | ⟨b', off', hb, hc⟩
  · exact .inl (by omega)
  · cases hb
    refine .inr ⟨b, off + a, rfl, fun j hj => ?_⟩
    rw [drop_get, Nat.add_assoc]
    exact hc (a + j) (by omega)

set_option maxHeartbeats 2000000 in
theorem distance_any (sa : Option Addr) (sl sc : Nat) (ss : List Int) (k : Nat) (w : World) (h : IntsAt w sa sl ss) (hk : k < sl) (hcap : sl ≤ sc) (hcm : sc ≤ 9223372036854775807) (hr : allR 1 1024 ss = true) (h4 : sl ≤ 4) :
    Calls Try.prog 44 #[.slice sa sl sc, .int .i64 k] w fun e w' => e = .returned (.int .i64 (prodI (ss.drop (k + 1)))) ∧ w = w' := by
  obtain ⟨b, off, rfl, -⟩ : ∃ b off, sa = some ⟨b, off, none⟩ ∧ True := by
    rcases h.2.2.2 with h5 | ⟨b, off, ha, _⟩
    · omega
    · exact ⟨b, off, ha, trivial⟩
  have hD := h.drop (k + 1) (by omega)
  obtain ⟨m, hm⟩ : ∃ m, sl - (k + 1) = m := ⟨_, rfl⟩
  obtain ⟨zs, hz⟩ : ∃ zs, ss.drop (k + 1) = zs := ⟨_, rfl⟩
  have hrz : allR 1 1024 zs = true := by rw [← hz]; exact allR_drop hr _
  rw [hm, hz] at hD
  rw [hz]
  have hzl := Lib.hid hD.1
  have hm4 : m ≤ 4 := by omega
  have HR := Lib.hid hrz
  have hcell := Lib.hid (show ∀ j, j < m → w.cell? ⟨b, off + (k + 1) + j, none⟩ = some (.int .i64 (zs.getD j 0)) by
    rcases hD.2.2.2 with h5 | ⟨b', off', ha, hc⟩
    · intro j hj; omega
    · cases ha; exact hc)
  have hP := Lib.hid (fun j (hj : j ≤ m) => (show 1 ≤ prodI (zs.take j) ∧ prodI (zs.take j) ≤ 1099511627776 from ⟨prodI_pos (allR_take hrz j), prodI_le (allR_take hrz j) (by rw [List.length_take]; omega)⟩))
  have HM := Lib.hid hm
  have q1 : ((k : Int) + 1) ≤ (sl : Int) := by omega
  clear h hD hrz hr hz hm
  by_cases hsc : sc = k + 1
  · go_enter Try.func44, Try.ntmps44
    go_wp2_with fail
    go_loopw [5, 13] (fun t i wr => ∃ j : Nat, j ≤ m ∧ i = .int .i64 j ∧ t = .int .i64 (prodI (zs.take j)) ∧ wr = w) (fun _ i _ => m - (intOf i).toNat)
    case atStart => exact ⟨0, Nat.zero_le _, rfl, by simp [prodI], rfl⟩
    case round =>
      obtain ⟨j, hj, rfl, rfl, rfl⟩ := hrel
      by_cases hlt : j < m
      · exfalso
        have := HM.out
        omega
      · obtain rfl : j = m := by omega
        rw [List.take_of_length_le (by rw [hzl.out]; omega)]
        have hlt' : ¬ (j : Int) < ((sl - (k + 1) : Nat) : Int) := by have := HM.out; omega
        go_wp2_with fail
        go_ret
        exact ⟨rfl, rfl⟩
  · go_enter Try.func44, Try.ntmps44
    go_wp2_with fail
    go_loopw [5, 13] (fun t i wr => ∃ j : Nat, j ≤ m ∧ i = .int .i64 j ∧ t = .int .i64 (prodI (zs.take j)) ∧ wr = w) (fun _ i _ => m - (intOf i).toNat)
    case atStart => exact ⟨0, Nat.zero_le _, rfl, by simp [prodI], rfl⟩
    case round =>
      obtain ⟨j, hj, rfl, rfl, rfl⟩ := hrel
      by_cases hlt : j < m
      · have hc := hcell.out j hlt
        obtain ⟨x1, x2⟩ := allR_getD HR.out j (by rw [hzl.out]; exact hlt)
        have hst := prodI_step zs j (by rw [hzl.out]; exact hlt)
        obtain ⟨p1, p2⟩ := hP.out j hj
        obtain ⟨p3, p4⟩ := hP.out (j + 1) hlt
        have HST := Lib.hid hst
        rw [hst] at p3 p4
        generalize zs.getD j 0 = x at *
        generalize prodI (zs.take j) = t at *
        have hw1 : IntKind.i64.wrap (t * x) = t * x := IntWalk.i64_in _ (by omega)
        have hlt' : (j : Int) < ((sl - (k + 1) : Nat) : Int) := by have := HM.out; omega
        clear hst
        go_wp2_with fail
        go_roundw
        case rel => exact ⟨j + 1, by omega, by go_num, by rw [HST.out], trivial⟩
        case measure => (simp [intOf]; try omega)
      · obtain rfl : j = m := by omega
        rw [List.take_of_length_le (by rw [hzl.out]; omega)]
        have hlt' : ¬ (j : Int) < ((sl - (k + 1) : Nat) : Int) := by have := HM.out; omega
        go_wp2_with fail
        go_ret
        exact ⟨rfl, rfl⟩

theorem prodI_split (ss : List Int) (k : Nat) (hk : k < ss.length) : prodI ss = prodI (ss.take k) * (ss.getD k 0 * prodI (ss.drop (k + 1))) := by
  have e : ss = ss.take k ++ (ss.getD k 0 :: ss.drop (k + 1)) := by
    have h1 := List.take_append_drop k ss
    rw [List.drop_eq_getElem_cons hk] at h1
    have h2 : ss.getD k 0 = ss[k] := by simp [List.getD, List.getElem?_eq_getElem hk]
    rw [h2]; exact h1.symm
  have h3 := congrArg prodI e
  rw [prodI_append, prodI_cons] at h3
  exact h3

theorem chunk_boxes (w : World) (b off cl cc n : Nat) : ChunkC w.heap.size (w.heap.size + 1) b off cl cc n ((w.alloc (.cells #[.slice (some ⟨b, off, none⟩) cl cc] 24)).alloc (.cells #[.int .i64 n] 3)) := by
  refine ⟨?_, ?_⟩
  · refine cell_later ((Below.refl _ _).alloc (Nat.le_refl _) _) ?_
    rw [World.cell?_alloc_at _ _ _ _ rfl]; rfl
  · rw [World.cell?_alloc_at _ _ _ _ (by simp)]; rfl

set_option maxHeartbeats 4000000 in
theorem blocks_any (sa : Option Addr) (sl sc : Nat) (ss : List Int) (b off cl cc : Nat) (k n M : Nat) (w : World) (h : IntsAt w sa sl ss) (hcap : sl ≤ sc) (hcm : sc ≤ 9223372036854775807) (hT : rightT ss cl = true) (hk : k < sl)
    (hcc : cl ≤ cc) (hccm : cc ≤ 9223372036854775807) (hl : cl ≤ 2000) (hn : ss.getD k 0 * prodI (ss.drop (k + 1)) = n) (hM : prodI (ss.take k) = M) :
    Calls Try.prog 45 #[.agg #[.slice sa sl sc, .slice (some ⟨b, off, none⟩) cl cc], .int .i64 k] w
      fun e w' => ∃ v, e = .returned v ∧ w'.ownsRow w.heap.size 24 1 v M ((upL 0 M).map (pieceV b off n)) ∧ Below w.heap.size w w' := by
  obtain ⟨hr, hcl⟩ := rightT_parts hT
  obtain ⟨-, hl4, hall, -⟩ := rightS_parts hr
  have hsl := h.1
  have hL : cl = M * n := by
    rw [prodI_split ss k (by omega), hn, hM] at hcl
    have : ((M * n : Nat) : Int) = (M : Int) * (n : Int) := by simp
    omega
  have hn1 : 1 ≤ n := by
    have h1 := (allR_getD hall k (by omega)).1
    have h2 := prodI_pos (allR_drop hall (k + 1))
    have h3 : 1 * 1 ≤ ss.getD k 0 * prodI (ss.drop (k + 1)) := Int.mul_le_mul h1 h2 (by omega) (by omega)
    omega
  have hM1 : M ≤ cl := by rw [hL]; exact Nat.le_mul_of_pos_right M hn1
  have hn2 : n ≤ cl := by
    have : 1 ≤ M := by have := prodI_pos (allR_take hall k); omega
    rw [hL]; exact Nat.le_mul_of_pos_left n this
  obtain ⟨wA, hwA, J, z, n1⟩ := grid_box w (.slice sa sl sc) (.slice (some ⟨b, off, none⟩) cl cc)
  obtain ⟨sb, so, rfl, hcs⟩ : ∃ b off, sa = some ⟨b, off, none⟩ ∧ wA.cell? ⟨b, off + k, none⟩ = some (.int .i64 (ss.getD k 0)) := by
    rcases (h.kept z.out).2.2.2 with h5 | ⟨b, off, ha, hcx⟩
    · omega
    · exact ⟨b, off, ha, hcx k hk⟩
  have DD := fun w1 (hb : Below wA.heap.size wA w1) => distance_any (some ⟨sb, so, none⟩) sl sc ss k w1 ((h.kept z.out).kept hb) hk hcap hcm hall (by omega)
  obtain ⟨x, hx⟩ : ∃ x, ss.getD k 0 = x := ⟨_, rfl⟩
  obtain ⟨P, hP⟩ : ∃ P, prodI (ss.drop (k + 1)) = P := ⟨_, rfl⟩
  rw [hP] at DD
  rw [hx] at hcs
  rw [hx, hP] at hn
  have hw1 : IntKind.i64.wrap (x * P) = (n : Int) := by rw [hn]; exact IntWalk.i64_in _ (by omega)
  have D1 := Lib.hid DD
  have CH := Lib.hid (fun w1 => chunk_any (some ⟨b, off, none⟩) cl cc n hn1 w1)
  have CO := Lib.hid (fun Bs Bn w1 hC => collect_any Bs Bn b off cc n M cl hn1 hL hcc hccm (by omega) (by omega) w1 hC)
  have SK := Lib.hid (fun w' (hb : Below wA.heap.size wA w') => (⟨(J.out.kept hb).see.1, (J.out.kept hb).see.2.1, cell_later hb hcs⟩ :
    w'.cell? ⟨w.heap.size, 0, none⟩ = some (.slice (some ⟨sb, so, none⟩) sl sc) ∧ w'.cell? ⟨w.heap.size, 1, none⟩ = some (.slice (some ⟨b, off, none⟩) cl cc) ∧ w'.cell? ⟨sb, so + k, none⟩ = some (.int .i64 x)))
  have u0 := SK.out _ (Below.refl _ _)
  have t0 := Lib.hid (Below.refl wA.heap.size wA).drew
  have u1 := SK.out _ t0.out
  have hk' : (k : Int) < (sl : Int) := by omega
  have CB : Hid (∀ w4, (wA.drew.alloc (.cells #[.slice (some ⟨b, off, none⟩) cl cc] 24)).alloc (.cells #[.int .i64 n] 3) = w4 → Below wA.heap.size wA w4 ∧ ChunkC wA.drew.heap.size (wA.drew.heap.size + 1) b off cl cc n w4) := Lib.hid (by
    rintro w4 rfl
    refine ⟨?_, chunk_boxes _ _ _ _ _ _⟩
    have h1 := t0.out.alloc t0.out.size (.cells #[.slice (some ⟨b, off, none⟩) cl cc] 24)
    exact h1.alloc h1.size _)
  clear h DD hcs hn hM hL hx hP hT hr hall hl4 hcl hsl
  go_enter Try.func45, Try.ntmps45
  go_upto_region 1 with (fail)
  rw [hwA.out]
  go_region_held3 (fun w' => w'.cell? ⟨w.heap.size, 0, none⟩ = some (.slice (some ⟨sb, so, none⟩) sl sc) ∧ w'.cell? ⟨w.heap.size, 1, none⟩ = some (.slice (some ⟨b, off, none⟩) cl cc) ∧ w'.cell? ⟨sb, so + k, none⟩ = some (.int .i64 x))
    (first | exact u0 | exact u1 | exact u4 | exact u5 | go_keep)
    ((first
      | (go_at_call 44; refine (D1.out _ t0.out).mono ?_; rintro e w3 ⟨rfl, rfl⟩)
      | (go_at_call 60; refine (CH.out _).mono ?_; rintro e w4 ⟨rfl, hw4⟩; have q4 := CB.out w4 hw4; have b4 := Lib.hid q4.1; have u4 := SK.out w4 b4.out; have c4 := Lib.hid q4.2; clear hw4 q4)
      | (go_at_call 59; refine (CO.out _ _ _ c4.out).mono ?_; rintro e w5 ⟨v, rfl, ho5, hb5⟩; have b5 := Lib.hid (b4.out.trans (hb5.mono b4.out.size)); have u5 := SK.out w5 b5.out; have o5 := Lib.hid ho5; clear ho5 hb5)))
  rename_i hHeld
  clear hHeld u0 u1 u4 u5
  have fin : w5.ownsRow w.heap.size 24 1 v M ((upL 0 M).map (pieceV b off n)) ∧ Below w.heap.size w w5 :=
    ⟨Joins.ownsRow_le o5.out (Nat.le_trans z.out.size b4.out.size), z.out.trans (b5.out.mono z.out.size)⟩
  have F := Lib.hid fin
  clear fin
  go_wp2_with fail
  go_ret
  exact ⟨v, rfl, F.out.1, F.out.2⟩
end Go.Proofs.Ytjphdkbhkkpeoaa
