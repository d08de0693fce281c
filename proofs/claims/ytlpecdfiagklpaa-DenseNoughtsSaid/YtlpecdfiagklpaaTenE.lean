/-
  Contracts of package tensor: Equal (its deferred closure finds no panic), Make.
-/
import Derived.Test.YtlpecdfiagklpaaTenD
import Derived.Tactics
import Derived.Tactics2
import Derived.Defers
import Derived.Recover
import Derived.Laws.Pointers
import Derived.Laws.OwnMore
import Derived.LoopTactic
namespace Go.Proofs.Ytlpecdfiagklpaa
open Go.RowKit
set_option linter.unusedVariables false
set_option linter.unusedSimpArgs false

theorem catch_idle (p : Addr) (w : World) :
    CallsD Try.prog 43 #[.pointer (some p)] .returning w fun e u' w' => e = .returned (.tuple #[]) ∧ u' = .returning ∧ w' = w := by
  refine callsD_of_wpS Try.func43 rfl fun c₀ cs hu => ?_
  apply wpS_seq
  apply wpS_region
  simp [wpOpsS, go_sem, recoverD, hu, Try.ntmps43, Exit.thenS]
  refine wpS_cond (t := false) (by simp [Act.eval, Array.replicate]) ?_
  simp only [Bool.false_eq_true, if_false]
  refine wpS_of_wp (wp_skip ?_)
  cases c₀
  simp_all [bodyPostS, results, Try.results43]

/-- Both tensors have the same shape and the same cells. -/
def sameT (s1 c1 s2 c2 : List Int) : Bool := sameL s1 s2 && sameL c1 c2

theorem bool_box (w : World) (x : Bool) : ∃ wB, Hid (w.alloc (.cells #[.bool x] 4) = wB) ∧ Hid (wB.heap[w.heap.size]? = some (.cells #[.bool x] 4 (0, 0))) ∧ Hid (Below w.heap.size w wB) ∧ Hid (wB.heap.size = w.heap.size + 1) :=
  ⟨_, Lib.hid rfl, Lib.hid (World.alloc_heap_new w _), Lib.hid ((Below.refl _ _).alloc (Nat.le_refl _) _), Lib.hid (by simp)⟩

set_option maxHeartbeats 2000000 in
theorem tequal_any (sa : Option Addr) (sl sc : Nat) (ss : List Int) (ca : Option Addr) (cl cc : Nat) (cs : List Int) (sa2 : Option Addr) (sl2 sc2 : Nat) (ss2 : List Int) (ca2 : Option Addr) (cl2 cc2 : Nat) (cs2 : List Int) (w : World)
    (h : IntsAt w sa sl ss) (hc : IntsAt w ca cl cs) (h2 : IntsAt w sa2 sl2 ss2) (hc2 : IntsAt w ca2 cl2 cs2) :
    Calls Try.prog 25 #[.agg #[.slice sa sl sc, .slice ca cl cc], .agg #[.slice sa2 sl2 sc2, .slice ca2 cl2 cc2]] w fun e w' => e = .returned (.bool (sameT ss cs ss2 cs2)) ∧ Below w.heap.size w w' := by
  have hmf : ∀ (fn : Fn) (first cap : Array Value) (w : World), (Instr.makeFunc fn first cap).run Try.prog w = .ok (.func fn first cap) w := fun _ _ _ _ => rfl
  obtain ⟨wA, hwA, J1, z1, n1⟩ := grid_box w (.slice sa sl sc) (.slice ca cl cc)
  obtain ⟨wB, hwB, J2, z2, n2⟩ := grid_box wA (.slice sa2 sl2 sc2) (.slice ca2 cl2 cc2)
  obtain ⟨wC, hwC, J3, z3, n3⟩ := bool_box wB false
  rw [n1.out] at J2
  rw [n2.out, n1.out] at J3
  have z12 := z1.out.trans (z2.out.mono z1.out.size)
  have z := Lib.hid (z12.trans (z3.out.mono z12.size))
  have J1' := Lib.hid ((J1.out.kept z2.out).kept z3.out)
  have J2' := Lib.hid (J2.out.kept z3.out)
  have F := equal_any sa sl sc ss sa2 sl2 sc2 ss2 wC (h.kept z.out) (h2.kept z.out)
  have G := Lib.hid (fun n => sliceEqualF_any ca cl cc cs ca2 cl2 cc2 cs2 (wC.drewN n) ((hc.kept z.out).kept (below_drewN' (Below.refl _ _) n)) ((hc2.kept z.out).kept (below_drewN' (Below.refl _ _) n)))
  clear h hc h2 hc2 z12 J1 J2
  have b0 : wC.cell? ⟨w.heap.size + 1 + 1, 0, none⟩ = some (.bool false) := by rw [Joins.cell_of_block J3.out]; rfl
  have b1 : wC.frozen? ⟨w.heap.size + 1 + 1, 0, none⟩ = false := Joins.unfrozen_of_block J3.out 0
  have L : Hid (∀ (n : Nat) (x : Bool), ((wC.drewN n).setCell ⟨w.heap.size + 1 + 1, 0, none⟩ (.bool x)).cell? ⟨w.heap.size + 1 + 1, 0, none⟩ = some (.bool x) ∧ Below w.heap.size w ((wC.drewN n).setCell ⟨w.heap.size + 1 + 1, 0, none⟩ (.bool x))) := Lib.hid (fun n x => by
    refine ⟨?_, (below_drewN' z.out n).setCell (by show w.heap.size ≤ w.heap.size + 1 + 1; omega) _⟩
    have h1 := Joins.block_setCell (w := wC.drewN n) (i := 0) J3.out (.bool x)
    rw [Joins.cell_of_block h1]; rfl)
  obtain ⟨i0, i1, -, -⟩ := J1'.out.see
  obtain ⟨j0, j1, -, -⟩ := J2'.out.see
  cases b : sameL ss ss2
  · rw [b] at F
    have F1 := Lib.hid F
    have E : Hid (sameT ss cs ss2 cs2 = false) := Lib.hid (by simp [sameT, b])
    rw [E.out]
    clear F b G E
    go_enter_defers Try.func25, Try.ntmps25
    go_upto_region 2 with (fail)
    rw [hwA.out, hwB.out, hwC.out]
    go_wp2_with fail
    refine F1.out.mono ?_
    rintro e w1 ⟨rfl, n, rfl⟩
    go_wp2_with fail
    obtain ⟨l0, l1⟩ := L.out n false
    have l1' := Lib.hid l1
    clear l1
    obtain ⟨w4, hw4⟩ : ∃ w4, (wC.drewN n).setCell ⟨w.heap.size + 1 + 1, 0, none⟩ (.bool false) = w4 := ⟨_, rfl⟩
    rw [hw4] at l0 l1' ⊢
    refine leaves_cons (f := 43) (args := #[.pointer (some ⟨w.heap.size + 1 + 1, 0, none⟩)]) (by simp) (by simp [go_sem]) ?_
    refine (catch_idle ⟨w.heap.size + 1 + 1, 0, none⟩ _).mono ?_
    rintro e u' w'' ⟨rfl, rfl, rfl⟩
    simp [Leaves, settle, results, Try.results25, go_sem, l0]
    exact l1'.out
  · rw [b] at F
    have F1 := Lib.hid F
    have E : Hid (sameT ss cs ss2 cs2 = sameL cs cs2) := Lib.hid (by simp [sameT, b])
    rw [E.out]
    clear F b E
    obtain ⟨x, hx⟩ : ∃ x, sameL cs cs2 = x := ⟨_, rfl⟩
    rw [hx] at G ⊢
    clear hx
    go_enter_defers Try.func25, Try.ntmps25
    go_upto_region 2 with (fail)
    rw [hwA.out, hwB.out, hwC.out]
    go_wp2_with fail
    refine F1.out.mono ?_
    rintro e w1 ⟨rfl, n, rfl⟩
    go_wp2_with fail
    refine (G.out n).mono ?_
    rintro e w1 ⟨rfl, m, rfl⟩
    go_wp2_with fail
    obtain ⟨l0, l1⟩ := L.out (n + m) x
    have l1' := Lib.hid l1
    clear l1
    obtain ⟨w4, hw4⟩ : ∃ w4, (wC.drewN (n + m)).setCell ⟨w.heap.size + 1 + 1, 0, none⟩ (.bool x) = w4 := ⟨_, rfl⟩
    rw [hw4] at l0 l1' ⊢
    refine leaves_cons (f := 43) (args := #[.pointer (some ⟨w.heap.size + 1 + 1, 0, none⟩)]) (by simp) (by simp [go_sem]) ?_
    refine (catch_idle ⟨w.heap.size + 1 + 1, 0, none⟩ _).mono ?_
    rintro e u' w'' ⟨rfl, rfl, rfl⟩
    simp [Leaves, settle, results, Try.results25, go_sem, l0]
    exact l1'.out

theorem f_made (t : TypeId) (ht : Try.prog.underlying t = some (.slice 47)) (len : Nat) (hl : len ≤ 65536) : ∀ w, (Instr.makeSlice t (.int .i64 len) (.int .i64 len)).run Try.prog w = .ok (.slice (some ⟨w.heap.size, 0, none⟩) len len) (w.alloc (.cells (madeCells #[.int .i64 0] len) 47)) := by
  intro w
  obtain ⟨i0, hi, hz0, hz1, hz2⟩ := info_parts fInfo
  have := run_make (P := Try.prog) w t 47 i0 _ ht hi hz0 .i64 .i64 len len (by omega) (by omega) (by rw [hz2]; omega) (by omega)
  rw [this, hz1]
  simp [Value.cells]

set_option maxHeartbeats 1000000 in
theorem make_no (sa : Option Addr) (sl sc : Nat) (ss : List Int) (x : Int) (w : World) (h : IntsAt w sa sl ss) (hr : rightS ss = false) :
    Calls Try.prog 24 #[.slice sa sl sc, .int .i64 x] w (NilT w 20) := by
  obtain ⟨wA, hwA, J1, z1, n1⟩ := grid_box w (.slice none 0 0) (.slice none 0 0)
  have C := size_any sa sl sc ss wA (h.kept z1.out)
  rw [sizeE_no hr, sizeN_no hr] at C
  have C1 := Lib.hid C
  clear C h hr
  go_enter Try.func24, Try.ntmps24
  go_upto_region 1 with (fail)
  rw [hwA.out]
  go_wp2_with fail
  refine C1.out.mono ?_
  rintro e w1 ⟨rfl, hb1⟩
  obtain ⟨e0, e1, f0, f1⟩ := (J1.out.kept hb1).see
  obtain ⟨h0, h1, -, -⟩ := ((J1.out.kept hb1).set (.slice none 0 0) (.slice none 0 0)).see
  have Z : Below w.heap.size w ((w1.setCell ⟨w.heap.size, 0, none⟩ (.slice none 0 0)).setCell ⟨w.heap.size, 1, none⟩ (.slice none 0 0)) :=
    ((z1.out.trans (hb1.mono z1.out.size)).setCell (Nat.le_refl _) _).setCell (Nat.le_refl _) _
  go_wp2_with fail
  refine bodyPost_ret (v := .tuple #[.agg #[.slice none 0 0, .slice none 0 0], .int .i64 20]) ?_ rfl ⟨rfl, Z⟩
  simp [results, Try.results24, go_sem, h0, h1]

/-- A row of n numbers, of which the first k are x, the rest 0. -/
def fillR (n k : Nat) (x : Int) : List Int := List.replicate k x ++ List.replicate (n - k) 0
theorem fillR_none (n : Nat) (x : Int) : fillR n 0 x = List.replicate n 0 := by simp [fillR]
theorem fillR_all (n : Nat) (x : Int) : fillR n n x = List.replicate n x := by simp [fillR]
theorem fillR_length {n k : Nat} (x : Int) (h : k ≤ n) : (fillR n k x).length = n := by simp [fillR]; omega
theorem fillR_set {n k : Nat} (x : Int) (h : k < n) : (fillR n k x).set k x = fillR n (k + 1) x := by
  unfold fillR
  rw [List.set_append_right _ _ (by simp), List.length_replicate, Nat.sub_self, show n - k = (n - (k + 1)) + 1 by omega, List.replicate_succ, List.set_cons_zero, List.replicate_succ']
  simp

set_option maxHeartbeats 2000000 in
theorem make_ok (sa : Option Addr) (sl sc : Nat) (ss : List Int) (x : Int) (w : World) (h : IntsAt w sa sl ss) (hr : rightS ss = true) (N : Nat) (hN : prodI ss = N) :
    Calls Try.prog 24 #[.slice sa sl sc, .int .i64 x] w (OkT w sl ss N (List.replicate N x)) := by
  obtain ⟨wA, hwA, J1, z1, n1⟩ := grid_box w (.slice none 0 0) (.slice none 0 0)
  have C := size_any sa sl sc ss wA (h.kept z1.out)
  rw [sizeE_yes hr, sizeN_yes hr, hN] at C
  have C1 := Lib.hid C
  have hl4 : sl ≤ 4 := by have := (rightS_parts hr).2.1; have := h.1; omega
  have hN6 : N ≤ 65536 := by have := (rightS_parts hr).2.2.2; omega
  have D := Lib.hid (fun w1 (hb : Below wA.heap.size wA w1) => copy_any sa sl sc ss w1 ((h.kept z1.out).kept hb) (by omega))
  have hmk := f_made 24 Try.underlying24 N hN6
  clear C h hr hN
  go_enter Try.func24, Try.ntmps24
  go_upto_region 1 with (fail)
  rw [hwA.out]
  go_wp2_with fail
  refine C1.out.mono ?_
  rintro e w1 ⟨rfl, hb1⟩
  go_upto_region 5 with (fail)
  obtain ⟨w2, hw2⟩ : ∃ w2, w1.alloc (.cells (madeCells #[.int .i64 0] N) 47) = w2 := ⟨_, rfl⟩
  have ho : Hid (w2.ownsRow w1.heap.size 47 1 (.slice (some ⟨w1.heap.size, 0, none⟩) N N) N ((fillR N 0 x).map (Value.int .i64))) := by
    have := World.ownsRow_lit w1 (base := w1.heap.size) (e := 47) (size := 1) (madeCells #[.int .i64 0] N) N (Nat.le_refl _) (by unfold maxLen; omega) (by rw [size_madeCells]; omega)
    rw [toList_madeCells_one, hw2] at this
    rw [fillR_none]
    refine Lib.hid ?_
    simpa using this
  have zb : Below w1.heap.size w1 w2 := by rw [← hw2]; exact (Below.refl _ _).alloc (Nat.le_refl _) _
  have hb2 := Lib.hid zb
  rw [hw2]
  clear hw2 zb hmk C1
  go_wp2_with fail
  go_loopw [23] (fun i wr => ∃ k : Nat, k ≤ N ∧ i = .int .i64 k ∧ Hid (wr.ownsRow w1.heap.size 47 1 (.slice (some ⟨w1.heap.size, 0, none⟩) N N) N ((fillR N k x).map (Value.int .i64))) ∧ Hid (Below w1.heap.size w1 wr)) (fun i _ => N - (intOf i).toNat)
  case atStart => exact ⟨0, Nat.zero_le _, rfl, ho, hb2⟩
  case round =>
    obtain ⟨k, hk, rfl, hrow, hbr⟩ := hrel
    by_cases hlt : k < N
    · obtain ⟨y, hy⟩ : ∃ y, wr.cell? ⟨w1.heap.size, k, none⟩ = some y := by
        have e : wr.cell? ⟨w1.heap.size, k, none⟩ = ((fillR N k x).map (Value.int .i64))[k]? := hrow.out.cellAt k (by omega)
        rw [List.getElem?_eq_getElem (by rw [List.length_map, fillR_length x hk]; exact hlt)] at e
        exact ⟨_, e⟩
      have hf := hrow.out.frozenAt k
      obtain ⟨ho4, hg4⟩ := hrow.out.stored k (.int .i64 x)
      rw [← List.map_set, fillR_set x hlt] at ho4
      have ho4' := Lib.hid ho4
      have hb4 := Lib.hid (hbr.out.setCell (p := ⟨w1.heap.size, k, none⟩) (Nat.le_refl _) (.int .i64 x))
      clear ho4 hg4
      go_wp2_with fail
      go_roundw
      case rel => exact ⟨k + 1, by omega, by go_num, ho4', hb4⟩
      case measure => (simp [intOf]; try omega)
    · obtain rfl : k = N := by omega
      rw [fillR_all] at hrow
      have hb3 := Lib.hid (hb1.trans (hbr.out.mono hb1.size))
      go_wp2_with fail
      refine (D.out wr hb3.out).mono ?_
      rintro e w4 ⟨A, c, rfl, ho5, hb5⟩
      have hb6 := hb3.out.trans (hb5.mono hb3.out.size)
      have J2 := J1.out.kept hb6
      obtain ⟨e0, e1, f0, f1⟩ := J2.see
      obtain ⟨h0, h1, -, -⟩ := (J2.set (.slice A sl c) (.slice (some ⟨w1.heap.size, 0, none⟩) k k)).see
      have hw1 : w.heap.size < w1.heap.size := by have := n1.out; have := hb1.size; omega
      have hw4 : w1.heap.size < wr.heap.size := by
        by_cases h0 : 0 < k
        · exact (hrow.out.lt w1.heap.size rfl).2
        · exact (hrow.out.lt w1.heap.size rfl).2
      have P : NewT w sl ss k (List.replicate k x) (.agg #[.slice A sl c, .slice (some ⟨w1.heap.size, 0, none⟩) k k]) ((w4.setCell ⟨w.heap.size, 0, none⟩ (.slice A sl c)).setCell ⟨w.heap.size, 1, none⟩ (.slice (some ⟨w1.heap.size, 0, none⟩) k k)) := by
        refine ⟨A, c, _, k, rfl, Joins.ownsRow_le (row_far (row_far ho5 ?_) ?_) ?_, Joins.ownsRow_le (row_far (row_far (row_kept hrow.out hb5) hw1) hw1) (Nat.le_of_lt hw1), ?_, ?_⟩
        · exact Nat.lt_trans hw1 hw4
        · exact Nat.lt_trans hw1 hw4
        · exact Nat.le_of_lt (Nat.lt_trans hw1 hw4)
        · rintro p q rfl hq
          cases hq
          have := (ho5.lt p.block rfl).1
          show p.block ≠ w1.heap.size
          omega
        · exact ((z1.out.trans (hb6.mono z1.out.size)).setCell (Nat.le_refl _) _).setCell (Nat.le_refl _) _
      have P' := Lib.hid P
      clear P ho5 hb5 hb6 J2 hw1 hw4
      go_wp2_with fail
      refine bodyPost_ret (v := .tuple #[.agg #[.slice A sl c, .slice (some ⟨w1.heap.size, 0, none⟩) k k], .int .i64 0]) ?_ rfl ⟨_, rfl, P'.out⟩
      simp [results, Try.results24, go_sem, h0, h1]
end Go.Proofs.Ytlpecdfiagklpaa
