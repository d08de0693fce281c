import Derived.Test.YtdimpgojamhakaaJ01
import Derived.Test.YtdimpgojamhakaaJ02
import Derived.Test.YtdimpgojamhakaaJ03
import Derived.Test.YtdimpgojamhakaaJ06
import Derived.BigQuiet
/-
  A row of 64-bit numbers that is under way, in a block of its own. (Moved here from RunM.)
-/
namespace Go.Proofs.Ytdimpgojamhakaa
open Go.RowKit
set_option linter.unusedVariables false
set_option linter.unusedSimpArgs false

theorem wmul {a b q : Nat} (h : a * b = q) (hq : q < 9223372036854775808) : IntKind.i64.wrap ((a : Int) * (b : Int)) = (q : Int) := by rw [← Int.natCast_mul, h]; exact IntWalk.i64_in _ (by omega)
theorem wadd {a b q : Nat} (h : a + b = q) (hq : q < 9223372036854775808) : IntKind.i64.wrap ((a : Int) + (b : Int)) = (q : Int) := by rw [← Int.natCast_add, h]; exact IntWalk.i64_in _ (by omega)
theorem i64_made (t : TypeId) (ht : Try.prog.underlying t = some (.slice 2)) (len : Nat) (hl : len ≤ 65536) : ∀ w, (Instr.makeSlice t (.int .i64 len) (.int .i64 len)).run Try.prog w = .ok (.slice (some ⟨w.heap.size, 0, none⟩) len len) (w.alloc (.cells (madeCells #[.int .i64 0] len) 2)) := by
  intro w
  obtain ⟨i0, hi, hz0, hz1, hz2⟩ := info_parts i64Info
  have := run_make (P := Try.prog) w t 2 i0 _ ht hi hz0 .i64 .i64 len len (by omega) (by omega) (by rw [hz2]; omega) (by omega)
  rw [this, hz1]
  simp [Value.cells]
/-- The cells of a row that is under way: a whole slice of 64-bit numbers in block g; all else is as it was. -/
def RunS (wB : World) (g N : Nat) (zs : List Int) (wr : World) : Prop := wr.ownsRow g 2 1 (.slice (some ⟨g, 0, none⟩) N N) N (zs.map (Value.int .i64)) ∧ Save (fun k => k = g) wB wr
theorem RunS.later {wB : World} {g N : Nat} {zs : List Int} {wr w' : World} (h : RunS wB g N zs wr) (hb : Below wr.heap.size wr w') : RunS wB g N zs w' := ⟨row_kept h.1 hb, h.2.later hb⟩
theorem RunS.set {wB : World} {g N : Nat} {zs : List Int} {wr : World} (h : RunS wB g N zs wr) (j : Nat) (x : Int) : RunS wB g N (zs.set j x) (wr.setCell ⟨g, j, none⟩ (.int .i64 x)) := by
  obtain ⟨h1, -⟩ := h.1.stored j (.int .i64 x)
  rw [← List.map_set] at h1
  exact ⟨h1, h.2.setCell rfl j _⟩
theorem RunS.cell {wB : World} {g N : Nat} {zs : List Int} {wr : World} (h : RunS wB g N zs wr) {j : Nat} (hj : j < N) : wr.cell? ⟨g, j, none⟩ = some (.int .i64 (zs.getD j 0)) ∧ wr.frozen? ⟨g, j, none⟩ = false := by
  refine ⟨?_, h.1.frozenAt j⟩
  have e := h.1.cellAt j (by omega)
  have hl : zs.length = N := by have := h.1.1; simpa using this
  rw [List.getElem?_map, List.getElem?_eq_getElem (by omega)] at e
  rw [e]
  simp [List.getD, List.getElem?_eq_getElem (show j < zs.length by omega)]
theorem RunS.made (w : World) (N : Nat) (hN : N ≤ 65536) : RunS (w.alloc (.cells (madeCells #[.int .i64 0] N) 2)) w.heap.size N (List.replicate N 0) (w.alloc (.cells (madeCells #[.int .i64 0] N) 2)) := by
  refine ⟨?_, Save.refl _ _⟩
  have := World.ownsRow_lit w (base := w.heap.size) (e := 2) (size := 1) (madeCells #[.int .i64 0] N) N (Nat.le_refl _) (by unfold maxLen; omega) (by rw [size_madeCells]; omega)
  rw [toList_madeCells_one] at this
  simpa using this
end Go.Proofs.Ytdimpgojamhakaa

/-
  The reference of layer 8: Back, for both kinds.
-/
namespace Go.Proofs.Ytdimpgojamhakaa
open Go.RowKit
set_option linter.unusedVariables false
set_option linter.unusedSimpArgs false

set_option maxRecDepth 100000 in
set_option maxHeartbeats 8000000 in
theorem refback8_1 (ra : Option Addr) (N rc : Nat) (row : List Int) (ga : Option Addr) (gl gc : Nat) (g : List Int) (wn s n : Nat) (w : World) (h : IntsAt w ra N row) (hg : IntsAt w ga gl g) (hn : ∀ i, i < n ↔ i * s + wn ≤ N) (h1 : 1 ≤ wn) (h2 : wn ≤ 1024) (s1 : 1 ≤ s) (s2 : s ≤ 1024) (hN : N ≤ 65536) (hn1 : 1 ≤ n) (hnL : n ≤ N) (hgl : n ≤ gl) (hgl6 : gl ≤ 65536) :
    Calls Try.prog 21 #[.int .i64 1, .slice ra N rc, .slice ga gl gc, .int .i64 wn, .int .i64 s] w fun e w' => ∃ A c, e = .returned (.slice A N c) ∧ w'.ownsRow w.heap.size 2 1 (.slice A N c) N ((backL 1 row g wn s n N).map (Value.int .i64)) ∧ Below w.heap.size w w' := by
  have hlen := Lib.hid h.1
  have HGF := Lib.hid hg.2.2.1
  obtain ⟨b, off, rfl, hcell⟩ := ints_cell h (by omega)
  obtain ⟨gb, go, rfl, hgcell⟩ := ints_cell hg (by omega)
  have hmk := i64_made 41 Try.underlying41 N hN
  have M := RunS.made w N hN
  have zB : Below w.heap.size w (w.alloc (.cells (madeCells #[.int .i64 0] N) 2)) := (Below.refl _ _).alloc (Nat.le_refl _) _
  obtain ⟨wB, hwB⟩ : ∃ wB, w.alloc (.cells (madeCells #[.int .i64 0] N) 2) = wB := ⟨_, rfl⟩
  have nB : wB.heap.size = w.heap.size + 1 := by rw [← hwB]; simp
  rw [hwB] at M zB
  have HCE := Lib.hid (fun (zs : List Int) w1 (hr : RunS wB w.heap.size N zs w1) k (hk : k < N) => hr.2.cell (cell_later zB (hcell k hk)) (fun e => by have h' := World.block_lt_of_cell? w _ (hcell k hk); rw [e] at h'; omega))
  have HGE := Lib.hid (fun (zs : List Int) w1 (hr : RunS wB w.heap.size N zs w1) k (hk : k < gl) => hr.2.cell (cell_later zB (hgcell k hk)) (fun e => by have h' := World.block_lt_of_cell? w _ (hgcell k hk); rw [e] at h'; omega))
  have HN := Lib.hid hn
  have HM := Lib.hid M
  have HZ := Lib.hid zB
  have HwB := Lib.hid hwB
  have HnB := Lib.hid nB
  clear h hg hcell hgcell hn M zB hwB nB
  go_enter Try.func21, Try.ntmps21
  go_upto_region 2 with (fail)
  rw [HwB.out]
  clear hmk
  go_wp2_with fail
  go_loopw [12, 13] (fun iv av wr => ∃ i q : Nat, i ≤ n ∧ iv = .int .i64 i ∧ av = .int .i64 q ∧ q ≤ N + s ∧ Hid (q = i * s) ∧ Hid (RunS wB w.heap.size N (runL N (backAll 1 row g wn s i)) wr)) (fun _ av _ => N + s - (intOf av).toNat)
  case atStart => exact ⟨0, 0, Nat.zero_le _, rfl, rfl, by omega, Lib.hid (by simp), Lib.hid (by unfold backAll; rw [partsL_zero, runL_nil]; exact HM.out)⟩
  case round =>
    obtain ⟨i, q, hin, rfl, rfl, hqL, hq, hrow⟩ := hrel
    by_cases hlt : q + wn ≤ N
    · have hlt' : (q : Int) + (wn : Int) ≤ (N : Int) := by omega
      have hilt : i < n := (HN.out i).2 (by rw [← hq.out]; exact hlt)
      have TS := Lib.hid (backAll_succ 1 row g wn s i)
      obtain ⟨ts, hts⟩ : ∃ ts, backAll 1 row g wn s i = ts := ⟨_, rfl⟩
      rw [hts] at TS hrow
      clear hts
      go_wp2_with fail
      go_loopw [14, 15] (fun bv kv wq => ∃ j p : Nat, j ≤ wn ∧ p = q + j ∧ kv = .int .i64 p ∧ bv = .int .i64 (bestN row q j : Nat) ∧ Hid (RunS wB w.heap.size N (runL N ts) wq)) (fun _ kv _ => q + wn - (intOf kv).toNat)
      case atStart => exact ⟨0, q, Nat.zero_le _, rfl, rfl, rfl, hrow⟩
      case round =>
        obtain ⟨j, p, hj, hp, rfl, rfl, hrow⟩ := hrel
        by_cases hjl : j < wn
        · have hpl : (p : Int) < (q : Int) + (wn : Int) := by omega
          have hbm : bestN row q j < N := by
            by_cases c : j = 0
            · rw [c, bestN_zero]; omega
            · have := (bestN_range row q (k := j) (by omega)).2; omega
          have k1 := HCE.out _ wr hrow.out p (by omega)
          have k2 := HCE.out _ wr hrow.out (bestN row q j) hbm
          have MY := Lib.hid (fun (hh : row.getD (bestN row q j) 0 < row.getD (q + j) 0) => bestN_yes hh)
          have MN := Lib.hid (fun (hh : ¬ row.getD (bestN row q j) 0 < row.getD (q + j) 0) => bestN_no hh)
          rw [← hp] at MY MN
          obtain ⟨m, hm⟩ : ∃ m, bestN row q j = m := ⟨_, rfl⟩
          rw [hm] at MY MN k2 hbm ⊢
          obtain ⟨x, hx⟩ : ∃ x, row.getD p 0 = x := ⟨_, rfl⟩
          obtain ⟨y, hy⟩ : ∃ y, row.getD m 0 = y := ⟨_, rfl⟩
          rw [hx] at k1 MY MN
          rw [hy] at k2 MY MN
          have hp1 : Hid (p + 1 = q + (j + 1)) := Lib.hid (by omega)
          have hpL : p < N := by omega
          have hp6 : p ≤ 65536 := by omega
          have hm6 : m < N := hbm
          have HR := hrow
          clear hx hy hm hp hbm
          by_cases c : y < x
          · have E := Lib.hid (MY.out c)
            clear MY MN
            go_wp2_with fail
            go_quiet (fail)
            go_wp2_with fail
            go_roundw
            case rel => exact ⟨j + 1, p + 1, by omega, hp1.out, by go_num, by rw [E.out], Lib.hid (HR.out.later (below_drewN' (Below.refl _ _) _))⟩
            case measure => (simp [intOf]; try omega)
          · have E := Lib.hid (MN.out c)
            clear MY MN
            go_wp2_with fail
            go_quiet (fail)
            go_wp2_with fail
            go_roundw
            case rel => exact ⟨j + 1, p + 1, by omega, hp1.out, by go_num, by rw [E.out], Lib.hid (HR.out.later (below_drewN' (Below.refl _ _) _))⟩
            case measure => (simp [intOf]; try omega)
        · have hjE : j = wn := by omega
          have hpl : ¬ (p : Int) < (q : Int) + (wn : Int) := by omega
          rw [hjE]
          have hmr := bestN_range row q h1
          have gb1 := HGF.out.getD i
          have HGv := Lib.hid (fun (zs : List Int) w1 (hr : RunS wB w.heap.size N zs w1) => HGE.out zs w1 hr i (by omega))
          have TS2 : Hid (backAll 1 row g wn s (i + 1) = ts ++ backC 1 row g wn s i) := TS
          unfold backC at TS2
          rw [if_pos rfl, ← hq.out] at TS2
          obtain ⟨m, hm⟩ : ∃ m, bestN row q wn = m := ⟨_, rfl⟩
          obtain ⟨v, hv⟩ : ∃ v, g.getD i 0 = v := ⟨_, rfl⟩
          rw [hm] at hmr ⊢
          rw [hm] at TS2
          rw [hv] at gb1 TS2 HGv
          have SG : Hid (∀ (zs : List Int) w', RunS wB w.heap.size N zs w' → w'.cell? ⟨gb, go + i, none⟩ = some (.int .i64 v)) := HGv
          have N1 : Hid (q + s = (i + 1) * s) := Lib.hid (by rw [hq.out, Nat.add_mul, Nat.one_mul])
          have hqs : q + s ≤ N + s := by omega
          have hi6 : i ≤ 65536 := by omega
          have hig : i < gl := by omega
          have HR0 := hrow
          clear hm hv hp hj hjE HGv TS hrow
          have ST : Hid (∀ u, q + u ≠ m → ts ++ (if m < q + (u + 1) then [(m, v)] else []) = ts ++ (if m < q + u then [(m, v)] else [])) := Lib.hid (fun u hu => by
            by_cases c : m < q + u
            · rw [if_pos c, if_pos (by omega)]
            · rw [if_neg c, if_neg (by omega)])
          have SE : Hid (∀ u p, p = m → q + u = m → runL N (ts ++ (if m < q + (u + 1) then [(m, v)] else [])) = addAt (runL N (ts ++ (if m < q + u then [(m, v)] else []))) p v) := Lib.hid (fun u p hp hu => by
            rw [if_pos (by omega), if_neg (by omega), List.append_nil, runL_snoc, hp])
          have SL : Hid (ts ++ (if m < q + wn then [(m, v)] else []) = backAll 1 row g wn s (i + 1)) := Lib.hid (by rw [if_pos hmr.2, TS2.out])
          have S0 : Hid (ts ++ (if m < q + 0 then [(m, v)] else []) = ts) := Lib.hid (by rw [if_neg (by omega), List.append_nil])
          clear TS2
          go_wp2_with fail
          go_loopw [16] (fun kv wq => ∃ u p : Nat, u ≤ wn ∧ p = q + u ∧ kv = .int .i64 p ∧ Hid (RunS wB w.heap.size N (runL N (ts ++ (if m < q + u then [(m, v)] else []))) wq)) (fun kv _ => q + wn - (intOf kv).toNat)
          case atStart => exact ⟨0, q, Nat.zero_le _, rfl, rfl, Lib.hid (by rw [S0.out]; exact HR0.out)⟩
          case round =>
            obtain ⟨u, p, hu, hp, rfl, hrow⟩ := hrel
            by_cases hul : u < wn
            · have hpl : (p : Int) < (q : Int) + (wn : Int) := by omega
              have hp1 : Hid (p + 1 = q + (u + 1)) := Lib.hid (by omega)
              have hpL : p < N := by omega
              have hp6 : p ≤ 65536 := by omega
              by_cases hpm : p = m
              · have hpe : ((p : Int) == (m : Int)) = true := beq_iff_eq.2 (by omega)
                have yb := (runL_fits N (ts ++ (if m < q + u then [(m, v)] else []))).getD p
                obtain ⟨y, hy⟩ : ∃ y, (runL N (ts ++ (if m < q + u then [(m, v)] else []))).getD p 0 = y := ⟨_, rfl⟩
                rw [hy] at yb
                have ADD0 := fun V => refadd_any y v V yb.1 yb.2 gb1.1 gb1.2
                obtain ⟨z, hz⟩ : ∃ z, sat (y + v) = z := ⟨_, rfl⟩
                simp only [hz] at ADD0
                have ADD := Lib.hid ADD0
                have CG : Hid (∀ w', RunS wB w.heap.size N (runL N (ts ++ (if m < q + u then [(m, v)] else []))) w' → w'.cell? ⟨w.heap.size, p, none⟩ = some (.int .i64 y) ∧ w'.frozen? ⟨w.heap.size, p, none⟩ = false) := Lib.hid (fun w' h => by
                  have := h.cell (j := p) hpL
                  rw [hy] at this
                  exact this)
                have NX : Hid (∀ w', RunS wB w.heap.size N (runL N (ts ++ (if m < q + u then [(m, v)] else []))) w' → RunS wB w.heap.size N (runL N (ts ++ (if m < q + (u + 1) then [(m, v)] else []))) (w'.setCell ⟨w.heap.size, p, none⟩ (.int .i64 z))) := Lib.hid (fun w' h => by
                  rw [SE.out u p hpm (by omega)]
                  unfold addAt
                  rw [hy, hz]
                  exact h.set p z)
                have hS1 := Lib.hid (hrow.out.later (Below.refl _ _).drew)
                clear yb hy hz ADD0 hpm hp hrow
                go_upto_region 16 with (fail)
                refine wp_region_held_drew (S := fun w' => w'.cell? ⟨gb, go + i, none⟩ = some (.int .i64 v)) (by kernel_rfl) (SG.out _ _ hS1.out) (fun hHeld => ?_)
                refine held_take 0 (.slice (some ⟨w.heap.size, 0, none⟩) N N) rfl (by kernel_rfl) (by kernel_rfl) (by kernel_rfl) (fun _ _ _ h => h) (by rfl) (by intro w' hS; go_simp) (by assumption) ?_
                try simp only [Act.put, List.setIfInBounds_toArray, List.set_cons_zero, List.set_cons_succ]
                refine held_take 1 (.int .i64 p) rfl (by kernel_rfl) (by kernel_rfl) (by kernel_rfl) (fun _ _ _ h => h) (by rfl) (by intro w' hS; go_simp) (by assumption) ?_
                try simp only [Act.put, List.setIfInBounds_toArray, List.set_cons_zero, List.set_cons_succ]
                refine held_take 2 (.slice (some ⟨w.heap.size, 0, none⟩) N N) rfl (by kernel_rfl) (by kernel_rfl) (by kernel_rfl) (fun _ _ _ h => h) (by rfl) (by intro w' hS; go_simp) (by assumption) ?_
                try simp only [Act.put, List.setIfInBounds_toArray, List.set_cons_zero, List.set_cons_succ]
                refine held_take 3 (.int .i64 p) rfl (by kernel_rfl) (by kernel_rfl) (by kernel_rfl) (fun _ _ _ h => h) (by rfl) (by intro w' hS; go_simp) (by assumption) ?_
                try simp only [Act.put, List.setIfInBounds_toArray, List.set_cons_zero, List.set_cons_succ]
                refine held_take 4 (.pointer (some ⟨w.heap.size, p, none⟩)) rfl (by kernel_rfl) (by kernel_rfl) (by kernel_rfl) (fun _ _ _ h => h) (by rfl) (by intro w' hS; go_simp) (by assumption) ?_
                try simp only [Act.put, List.setIfInBounds_toArray, List.set_cons_zero, List.set_cons_succ]
                refine held_take 6 (.slice (some ⟨gb, go, none⟩) gl gc) rfl (by kernel_rfl) (by kernel_rfl) (by kernel_rfl) (fun _ _ _ h => h) (by rfl) (by intro w' hS; go_simp) (by assumption) ?_
                try simp only [Act.put, List.setIfInBounds_toArray, List.set_cons_zero, List.set_cons_succ]
                refine held_take 7 (.int .i64 i) rfl (by kernel_rfl) (by kernel_rfl) (by kernel_rfl) (fun _ _ _ h => h) (by rfl) (by intro w' hS; go_simp) (by assumption) ?_
                try simp only [Act.put, List.setIfInBounds_toArray, List.set_cons_zero, List.set_cons_succ]
                refine held_take 8 (.pointer (some ⟨gb, go + i, none⟩)) rfl (by kernel_rfl) (by kernel_rfl) (by kernel_rfl) (fun _ _ _ h => h) (by rfl) (by intro w' hS; go_simp) (by assumption) ?_
                try simp only [Act.put, List.setIfInBounds_toArray, List.set_cons_zero, List.set_cons_succ]
                refine held_take 9 (.int .i64 v) rfl (by kernel_rfl) (by kernel_rfl) (by kernel_rfl) (fun _ _ _ h => h) (by rfl) (by intro w' hS; go_simp) (by assumption) ?_
                try simp only [Act.put, List.setIfInBounds_toArray, List.set_cons_zero, List.set_cons_succ]
                obtain ⟨cg, fg_⟩ := CG.out _ hS1.out
                refine held_call 5 (by kernel_rfl) rfl (by rfl) (fun K hK => ?_)
                go_simp
                refine hK.out _ _ hHeld (fun hHeld => ?_)
                try simp only [Act.put, List.setIfInBounds_toArray, List.set_cons_zero, List.set_cons_succ]
                refine held_call 10 (by kernel_rfl) rfl (by rfl) (fun K hK => ?_)
                go_simp
                refine (ADD.out _).mono ?_
                rintro e wz ⟨rfl, rfl⟩
                go_wp2_with fail
                refine hK.out _ _ hHeld (fun hHeld => ?_)
                try simp only [Act.put, List.setIfInBounds_toArray, List.set_cons_zero, List.set_cons_succ]
                refine held_take 11 (.pointer (some ⟨w.heap.size, p, none⟩)) rfl (by kernel_rfl) (by kernel_rfl) (by kernel_rfl) (fun _ _ _ h => h) (by rfl) (by intro w' hS; go_simp) (by assumption) ?_
                try simp only [Act.put, List.setIfInBounds_toArray, List.set_cons_zero, List.set_cons_succ]
                obtain ⟨cg2, fg2⟩ := CG.out _ hS1.out
                have hS5 := Lib.hid (NX.out _ hS1.out)
                refine held_call 12 (by kernel_rfl) rfl (by rfl) (fun K hK => ?_)
                go_simp
                refine hK.out _ _ (SG.out _ _ hS5.out) (fun hHeld => ?_)
                try simp only [Act.put, List.setIfInBounds_toArray, List.set_cons_zero, List.set_cons_succ]
                refine wpAnyH_done (by kernel_rfl) ?_ _
                clear cg2 fg2
                go_wp2_with fail
                go_roundw
                case rel => exact ⟨u + 1, p + 1, by omega, hp1.out, by go_num, hS5⟩
                case measure => (simp [intOf]; try omega)
              · have hpe : ((p : Int) == (m : Int)) = false := beq_eq_false_iff_ne.2 (by omega)
                have P : Hid (RunS wB w.heap.size N (runL N (ts ++ (if m < q + (u + 1) then [(m, v)] else []))) wr) := Lib.hid (by rw [ST.out u (by omega)]; exact hrow.out)
                clear hpm hp hrow
                go_wp2_with fail
                go_roundw
                case rel => exact ⟨u + 1, p + 1, by omega, hp1.out, by go_num, P⟩
                case measure => (simp [intOf]; try omega)
            · have huE : u = wn := by omega
              have hpl : ¬ (p : Int) < (q : Int) + (wn : Int) := by omega
              rw [huE, SL.out] at hrow
              have HR9 := hrow
              clear huE hp hrow
              go_wp2_with fail
              go_roundw
              case rel => exact ⟨i + 1, q + s, by omega, by go_num, by go_num, hqs, N1, HR9⟩
              case measure => (simp [intOf]; try omega)
    · have hlt' : ¬ (q : Int) + (wn : Int) ≤ (N : Int) := by omega
      have hin2 : i = n := by
        have := mt (HN.out i).1 (by rw [← hq.out]; exact hlt)
        omega
      rw [hin2] at hrow
      have P : Hid (wr.ownsRow w.heap.size 2 1 (.slice (some ⟨w.heap.size, 0, none⟩) N N) N ((backL 1 row g wn s n N).map (Value.int .i64)) ∧ Below w.heap.size w wr) := Lib.hid ⟨hrow.out.1, hrow.out.2.below HZ.out (by rw [HnB.out]; omega) (fun k e => by rw [e]; exact Nat.le_refl _)⟩
      clear hin2 hrow
      go_wp2_with fail
      go_ret
      exact ⟨_, _, rfl, P.out.1, P.out.2⟩

set_option maxRecDepth 100000 in
set_option maxHeartbeats 8000000 in
theorem refback8_2 (ra : Option Addr) (N rc : Nat) (row : List Int) (ga : Option Addr) (gl gc : Nat) (g : List Int) (wn s n : Nat) (w : World) (h : IntsAt w ra N row) (hg : IntsAt w ga gl g) (hn : ∀ i, i < n ↔ i * s + wn ≤ N) (h1 : 1 ≤ wn) (h2 : wn ≤ 1024) (s1 : 1 ≤ s) (s2 : s ≤ 1024) (hN : N ≤ 65536) (hn1 : 1 ≤ n) (hnL : n ≤ N) (hgl : n ≤ gl) (hgl6 : gl ≤ 65536) :
    Calls Try.prog 21 #[.int .i64 2, .slice ra N rc, .slice ga gl gc, .int .i64 wn, .int .i64 s] w fun e w' => ∃ A c, e = .returned (.slice A N c) ∧ w'.ownsRow w.heap.size 2 1 (.slice A N c) N ((backL 2 row g wn s n N).map (Value.int .i64)) ∧ Below w.heap.size w w' := by
  have hlen := Lib.hid h.1
  have HGF := Lib.hid hg.2.2.1
  obtain ⟨b, off, rfl, hcell⟩ := ints_cell h (by omega)
  obtain ⟨gb, go, rfl, hgcell⟩ := ints_cell hg (by omega)
  have hmk := i64_made 41 Try.underlying41 N hN
  have M := RunS.made w N hN
  have zB : Below w.heap.size w (w.alloc (.cells (madeCells #[.int .i64 0] N) 2)) := (Below.refl _ _).alloc (Nat.le_refl _) _
  obtain ⟨wB, hwB⟩ : ∃ wB, w.alloc (.cells (madeCells #[.int .i64 0] N) 2) = wB := ⟨_, rfl⟩
  have nB : wB.heap.size = w.heap.size + 1 := by rw [← hwB]; simp
  rw [hwB] at M zB
  have HCE := Lib.hid (fun (zs : List Int) w1 (hr : RunS wB w.heap.size N zs w1) k (hk : k < N) => hr.2.cell (cell_later zB (hcell k hk)) (fun e => by have h' := World.block_lt_of_cell? w _ (hcell k hk); rw [e] at h'; omega))
  have HGE := Lib.hid (fun (zs : List Int) w1 (hr : RunS wB w.heap.size N zs w1) k (hk : k < gl) => hr.2.cell (cell_later zB (hgcell k hk)) (fun e => by have h' := World.block_lt_of_cell? w _ (hgcell k hk); rw [e] at h'; omega))
  have HN := Lib.hid hn
  have HM := Lib.hid M
  have HZ := Lib.hid zB
  have HwB := Lib.hid hwB
  have HnB := Lib.hid nB
  clear h hg hcell hgcell hn M zB hwB nB
  go_enter Try.func21, Try.ntmps21
  go_upto_region 2 with (fail)
  rw [HwB.out]
  clear hmk
  go_wp2_with fail
  go_loopw [12, 13] (fun iv av wr => ∃ i q : Nat, i ≤ n ∧ iv = .int .i64 i ∧ av = .int .i64 q ∧ q ≤ N + s ∧ Hid (q = i * s) ∧ Hid (RunS wB w.heap.size N (runL N (backAll 2 row g wn s i)) wr)) (fun _ av _ => N + s - (intOf av).toNat)
  case atStart => exact ⟨0, 0, Nat.zero_le _, rfl, rfl, by omega, Lib.hid (by simp), Lib.hid (by unfold backAll; rw [partsL_zero, runL_nil]; exact HM.out)⟩
  case round =>
    obtain ⟨i, q, hin, rfl, rfl, hqL, hq, hrow⟩ := hrel
    by_cases hlt : q + wn ≤ N
    · have hlt' : (q : Int) + (wn : Int) ≤ (N : Int) := by omega
      have hilt : i < n := (HN.out i).2 (by rw [← hq.out]; exact hlt)
      have TS := Lib.hid (backAll_succ 2 row g wn s i)
      obtain ⟨ts, hts⟩ : ∃ ts, backAll 2 row g wn s i = ts := ⟨_, rfl⟩
      rw [hts] at TS hrow
      clear hts
      go_wp2_with fail
      go_loopw [14, 15] (fun bv kv wq => ∃ j p : Nat, j ≤ wn ∧ p = q + j ∧ kv = .int .i64 p ∧ bv = .int .i64 (bestN row q j : Nat) ∧ Hid (RunS wB w.heap.size N (runL N ts) wq)) (fun _ kv _ => q + wn - (intOf kv).toNat)
      case atStart => exact ⟨0, q, Nat.zero_le _, rfl, rfl, rfl, hrow⟩
      case round =>
        obtain ⟨j, p, hj, hp, rfl, rfl, hrow⟩ := hrel
        by_cases hjl : j < wn
        · have hpl : (p : Int) < (q : Int) + (wn : Int) := by omega
          have hbm : bestN row q j < N := by
            by_cases c : j = 0
            · rw [c, bestN_zero]; omega
            · have := (bestN_range row q (k := j) (by omega)).2; omega
          have k1 := HCE.out _ wr hrow.out p (by omega)
          have k2 := HCE.out _ wr hrow.out (bestN row q j) hbm
          have MY := Lib.hid (fun (hh : row.getD (bestN row q j) 0 < row.getD (q + j) 0) => bestN_yes hh)
          have MN := Lib.hid (fun (hh : ¬ row.getD (bestN row q j) 0 < row.getD (q + j) 0) => bestN_no hh)
          rw [← hp] at MY MN
          obtain ⟨m, hm⟩ : ∃ m, bestN row q j = m := ⟨_, rfl⟩
          rw [hm] at MY MN k2 hbm ⊢
          obtain ⟨x, hx⟩ : ∃ x, row.getD p 0 = x := ⟨_, rfl⟩
          obtain ⟨y, hy⟩ : ∃ y, row.getD m 0 = y := ⟨_, rfl⟩
          rw [hx] at k1 MY MN
          rw [hy] at k2 MY MN
          have hp1 : Hid (p + 1 = q + (j + 1)) := Lib.hid (by omega)
          have hpL : p < N := by omega
          have hp6 : p ≤ 65536 := by omega
          have hm6 : m < N := hbm
          have HR := hrow
          clear hx hy hm hp hbm
          by_cases c : y < x
          · have E := Lib.hid (MY.out c)
            clear MY MN
            go_wp2_with fail
            go_quiet (fail)
            go_wp2_with fail
            go_roundw
            case rel => exact ⟨j + 1, p + 1, by omega, hp1.out, by go_num, by rw [E.out], Lib.hid (HR.out.later (below_drewN' (Below.refl _ _) _))⟩
            case measure => (simp [intOf]; try omega)
          · have E := Lib.hid (MN.out c)
            clear MY MN
            go_wp2_with fail
            go_quiet (fail)
            go_wp2_with fail
            go_roundw
            case rel => exact ⟨j + 1, p + 1, by omega, hp1.out, by go_num, by rw [E.out], Lib.hid (HR.out.later (below_drewN' (Below.refl _ _) _))⟩
            case measure => (simp [intOf]; try omega)
        · have hjE : j = wn := by omega
          have hpl : ¬ (p : Int) < (q : Int) + (wn : Int) := by omega
          rw [hjE]
          have hmr := bestN_range row q h1
          have gb1 := HGF.out.getD i
          have HGv := Lib.hid (fun (zs : List Int) w1 (hr : RunS wB w.heap.size N zs w1) => HGE.out zs w1 hr i (by omega))
          have TS2 : Hid (backAll 2 row g wn s (i + 1) = ts ++ backC 2 row g wn s i) := TS
          unfold backC at TS2
          rw [if_neg (by omega), ← hq.out] at TS2
          obtain ⟨m, hm⟩ : ∃ m, bestN row q wn = m := ⟨_, rfl⟩
          obtain ⟨v, hv⟩ : ∃ v, g.getD i 0 = v := ⟨_, rfl⟩
          rw [hm] at hmr ⊢
          have hm9 := hm
          rw [hv] at gb1 TS2 HGv
          have SG : Hid (∀ (zs : List Int) w', RunS wB w.heap.size N zs w' → w'.cell? ⟨gb, go + i, none⟩ = some (.int .i64 v)) := HGv
          have N1 : Hid (q + s = (i + 1) * s) := Lib.hid (by rw [hq.out, Nat.add_mul, Nat.one_mul])
          have hqs : q + s ≤ N + s := by omega
          have hi6 : i ≤ 65536 := by omega
          have hig : i < gl := by omega
          have HR0 := hrow
          clear hm hv hp hj hjE HGv TS hrow
          have DIV0 := fun V => refdiv8_any v wn V gb1.1 gb1.2 h2
          obtain ⟨d, hd⟩ : ∃ d, divF v ((wn : Int) * 4294967296) = d := ⟨_, rfl⟩
          have db := divF_bounds v ((wn : Int) * 4294967296)
          rw [hd] at db TS2
          simp only [hd] at DIV0
          have DIV := Lib.hid DIV0
          have SE : Hid (∀ u, runL N (ts ++ ((List.range (u + 1)).map fun t => (q + t, d))) = addAt (runL N (ts ++ ((List.range u).map fun t => (q + t, d)))) (q + u) d) := Lib.hid (fun u => by
            rw [List.range_succ, List.map_append, ← List.append_assoc]
            exact runL_snoc _ _ _)
          have SL : Hid (ts ++ ((List.range wn).map fun t => (q + t, d)) = backAll 2 row g wn s (i + 1)) := Lib.hid TS2.out.symm
          have S0 : Hid (ts ++ ((List.range 0).map fun t => (q + t, d)) = ts) := Lib.hid (by simp)
          clear hd DIV0 hm9
          clear TS2
          go_wp2_with fail
          go_loopw [16] (fun kv wq => ∃ u p : Nat, u ≤ wn ∧ p = q + u ∧ kv = .int .i64 p ∧ Hid (RunS wB w.heap.size N (runL N (ts ++ ((List.range u).map fun t => (q + t, d)))) wq)) (fun kv _ => q + wn - (intOf kv).toNat)
          case atStart => exact ⟨0, q, Nat.zero_le _, rfl, rfl, Lib.hid (by rw [S0.out]; exact HR0.out)⟩
          case round =>
            obtain ⟨u, p, hu, hp, rfl, hrow⟩ := hrel
            by_cases hul : u < wn
            · have hpl : (p : Int) < (q : Int) + (wn : Int) := by omega
              have hp1 : Hid (p + 1 = q + (u + 1)) := Lib.hid (by omega)
              have hpL : p < N := by omega
              have hp6 : p ≤ 65536 := by omega
              have yb := (runL_fits N (ts ++ ((List.range u).map fun t => (q + t, d)))).getD p
              obtain ⟨y, hy⟩ : ∃ y, (runL N (ts ++ ((List.range u).map fun t => (q + t, d)))).getD p 0 = y := ⟨_, rfl⟩
              rw [hy] at yb
              have ADD0 := fun V => refadd_any y d V yb.1 yb.2 db.1 db.2
              obtain ⟨z, hz⟩ : ∃ z, sat (y + d) = z := ⟨_, rfl⟩
              simp only [hz] at ADD0
              have ADD := Lib.hid ADD0
              have CG : Hid (∀ w', RunS wB w.heap.size N (runL N (ts ++ ((List.range u).map fun t => (q + t, d)))) w' → w'.cell? ⟨w.heap.size, p, none⟩ = some (.int .i64 y) ∧ w'.frozen? ⟨w.heap.size, p, none⟩ = false) := Lib.hid (fun w' h => by
                have := h.cell (j := p) hpL
                rw [hy] at this
                exact this)
              have NX : Hid (∀ w', RunS wB w.heap.size N (runL N (ts ++ ((List.range u).map fun t => (q + t, d)))) w' → RunS wB w.heap.size N (runL N (ts ++ ((List.range (u + 1)).map fun t => (q + t, d)))) (w'.setCell ⟨w.heap.size, p, none⟩ (.int .i64 z))) := Lib.hid (fun w' h => by
                rw [SE.out u]
                unfold addAt
                rw [← hp, hy, hz]
                exact h.set p z)
              have hS1 := Lib.hid (hrow.out.later (Below.refl _ _).drew)
              clear yb hy hz ADD0 hp hrow
              go_upto_region 18 with (fail)
              refine wp_region_held_drew (S := fun w' => w'.cell? ⟨gb, go + i, none⟩ = some (.int .i64 v)) (by kernel_rfl) (SG.out _ _ hS1.out) (fun hHeld => ?_)
              refine held_take 0 (.slice (some ⟨w.heap.size, 0, none⟩) N N) rfl (by kernel_rfl) (by kernel_rfl) (by kernel_rfl) (fun _ _ _ h => h) (by rfl) (by intro w' hS; go_simp) (by assumption) ?_
              try simp only [Act.put, List.setIfInBounds_toArray, List.set_cons_zero, List.set_cons_succ]
              refine held_take 1 (.int .i64 p) rfl (by kernel_rfl) (by kernel_rfl) (by kernel_rfl) (fun _ _ _ h => h) (by rfl) (by intro w' hS; go_simp) (by assumption) ?_
              try simp only [Act.put, List.setIfInBounds_toArray, List.set_cons_zero, List.set_cons_succ]
              refine held_take 2 (.slice (some ⟨w.heap.size, 0, none⟩) N N) rfl (by kernel_rfl) (by kernel_rfl) (by kernel_rfl) (fun _ _ _ h => h) (by rfl) (by intro w' hS; go_simp) (by assumption) ?_
              try simp only [Act.put, List.setIfInBounds_toArray, List.set_cons_zero, List.set_cons_succ]
              refine held_take 3 (.int .i64 p) rfl (by kernel_rfl) (by kernel_rfl) (by kernel_rfl) (fun _ _ _ h => h) (by rfl) (by intro w' hS; go_simp) (by assumption) ?_
              try simp only [Act.put, List.setIfInBounds_toArray, List.set_cons_zero, List.set_cons_succ]
              refine held_take 4 (.pointer (some ⟨w.heap.size, p, none⟩)) rfl (by kernel_rfl) (by kernel_rfl) (by kernel_rfl) (fun _ _ _ h => h) (by rfl) (by intro w' hS; go_simp) (by assumption) ?_
              try simp only [Act.put, List.setIfInBounds_toArray, List.set_cons_zero, List.set_cons_succ]
              refine held_take 6 (.slice (some ⟨gb, go, none⟩) gl gc) rfl (by kernel_rfl) (by kernel_rfl) (by kernel_rfl) (fun _ _ _ h => h) (by rfl) (by intro w' hS; go_simp) (by assumption) ?_
              try simp only [Act.put, List.setIfInBounds_toArray, List.set_cons_zero, List.set_cons_succ]
              refine held_take 7 (.int .i64 i) rfl (by kernel_rfl) (by kernel_rfl) (by kernel_rfl) (fun _ _ _ h => h) (by rfl) (by intro w' hS; go_simp) (by assumption) ?_
              try simp only [Act.put, List.setIfInBounds_toArray, List.set_cons_zero, List.set_cons_succ]
              refine held_take 8 (.pointer (some ⟨gb, go + i, none⟩)) rfl (by kernel_rfl) (by kernel_rfl) (by kernel_rfl) (fun _ _ _ h => h) (by rfl) (by intro w' hS; go_simp) (by assumption) ?_
              try simp only [Act.put, List.setIfInBounds_toArray, List.set_cons_zero, List.set_cons_succ]
              refine held_take 9 (.int .i64 v) rfl (by kernel_rfl) (by kernel_rfl) (by kernel_rfl) (fun _ _ _ h => h) (by rfl) (by intro w' hS; go_simp) (by assumption) ?_
              try simp only [Act.put, List.setIfInBounds_toArray, List.set_cons_zero, List.set_cons_succ]
              refine held_take 10 (.int .i64 wn) rfl (by kernel_rfl) (by kernel_rfl) (by kernel_rfl) (fun _ _ _ h => h) (by rfl) (by intro w' hS; go_simp) (by assumption) ?_
              try simp only [Act.put, List.setIfInBounds_toArray, List.set_cons_zero, List.set_cons_succ]
              obtain ⟨cg, fg_⟩ := CG.out _ hS1.out
              refine held_two 5 11 (by kernel_rfl) rfl rfl (by rfl) (by rfl) (fun K hK => ?_) (fun K hK => ?_)
              · go_simp
                refine hK.out _ _ hHeld (fun hHeld => ?_)
                try simp only [Act.put, List.setIfInBounds_toArray, List.set_cons_zero, List.set_cons_succ]
                refine held_call 11 (by kernel_rfl) rfl (by rfl) (fun K hK => ?_)
                go_simp
                refine (DIV.out _).mono ?_
                rintro e wq ⟨rfl, hbq⟩
                have hS3 := Lib.hid (hS1.out.later hbq)
                clear hbq
                go_wp2_with fail
                refine hK.out _ _ (SG.out _ _ hS3.out) (fun hHeld => ?_)
                try simp only [Act.put, List.setIfInBounds_toArray, List.set_cons_zero, List.set_cons_succ]
                refine held_call 12 (by kernel_rfl) rfl (by rfl) (fun K hK => ?_)
                go_simp
                refine (ADD.out _).mono ?_
                rintro e wz ⟨rfl, rfl⟩
                go_wp2_with fail
                refine hK.out _ _ hHeld (fun hHeld => ?_)
                try simp only [Act.put, List.setIfInBounds_toArray, List.set_cons_zero, List.set_cons_succ]
                refine held_take 13 (.pointer (some ⟨w.heap.size, p, none⟩)) rfl (by kernel_rfl) (by kernel_rfl) (by kernel_rfl) (fun _ _ _ h => h) (by rfl) (by intro w' hS; go_simp) (by assumption) ?_
                try simp only [Act.put, List.setIfInBounds_toArray, List.set_cons_zero, List.set_cons_succ]
                obtain ⟨cg2, fg2⟩ := CG.out _ hS3.out
                have hS5 := Lib.hid (NX.out _ hS3.out)
                refine held_call 14 (by kernel_rfl) rfl (by rfl) (fun K hK => ?_)
                go_simp
                refine hK.out _ _ (SG.out _ _ hS5.out) (fun hHeld => ?_)
                try simp only [Act.put, List.setIfInBounds_toArray, List.set_cons_zero, List.set_cons_succ]
                refine wpAnyH_done (by kernel_rfl) ?_ _
                clear cg2 fg2
                go_wp2_with fail
                go_roundw
                case rel => exact ⟨u + 1, p + 1, by omega, hp1.out, by go_num, hS5⟩
                case measure => (simp [intOf]; try omega)
              · go_simp
                refine (DIV.out _).mono ?_
                rintro e wq ⟨rfl, hbq⟩
                have hS3 := Lib.hid (hS1.out.later hbq)
                clear hbq
                go_wp2_with fail
                refine hK.out _ _ (SG.out _ _ hS3.out) (fun hHeld => ?_)
                try simp only [Act.put, List.setIfInBounds_toArray, List.set_cons_zero, List.set_cons_succ]
                obtain ⟨cg, fg_⟩ := CG.out _ hS3.out
                refine held_call 5 (by kernel_rfl) rfl (by rfl) (fun K hK => ?_)
                go_simp
                refine hK.out _ _ hHeld (fun hHeld => ?_)
                try simp only [Act.put, List.setIfInBounds_toArray, List.set_cons_zero, List.set_cons_succ]
                refine held_call 12 (by kernel_rfl) rfl (by rfl) (fun K hK => ?_)
                go_simp
                refine (ADD.out _).mono ?_
                rintro e wz ⟨rfl, rfl⟩
                go_wp2_with fail
                refine hK.out _ _ hHeld (fun hHeld => ?_)
                try simp only [Act.put, List.setIfInBounds_toArray, List.set_cons_zero, List.set_cons_succ]
                refine held_take 13 (.pointer (some ⟨w.heap.size, p, none⟩)) rfl (by kernel_rfl) (by kernel_rfl) (by kernel_rfl) (fun _ _ _ h => h) (by rfl) (by intro w' hS; go_simp) (by assumption) ?_
                try simp only [Act.put, List.setIfInBounds_toArray, List.set_cons_zero, List.set_cons_succ]
                obtain ⟨cg2, fg2⟩ := CG.out _ hS3.out
                have hS5 := Lib.hid (NX.out _ hS3.out)
                refine held_call 14 (by kernel_rfl) rfl (by rfl) (fun K hK => ?_)
                go_simp
                refine hK.out _ _ (SG.out _ _ hS5.out) (fun hHeld => ?_)
                try simp only [Act.put, List.setIfInBounds_toArray, List.set_cons_zero, List.set_cons_succ]
                refine wpAnyH_done (by kernel_rfl) ?_ _
                clear cg2 fg2
                go_wp2_with fail
                go_roundw
                case rel => exact ⟨u + 1, p + 1, by omega, hp1.out, by go_num, hS5⟩
                case measure => (simp [intOf]; try omega)
            · have huE : u = wn := by omega
              have hpl : ¬ (p : Int) < (q : Int) + (wn : Int) := by omega
              rw [huE, SL.out] at hrow
              have HR9 := hrow
              clear huE hp hrow
              go_wp2_with fail
              go_roundw
              case rel => exact ⟨i + 1, q + s, by omega, by go_num, by go_num, hqs, N1, HR9⟩
              case measure => (simp [intOf]; try omega)
    · have hlt' : ¬ (q : Int) + (wn : Int) ≤ (N : Int) := by omega
      have hin2 : i = n := by
        have := mt (HN.out i).1 (by rw [← hq.out]; exact hlt)
        omega
      rw [hin2] at hrow
      have P : Hid (wr.ownsRow w.heap.size 2 1 (.slice (some ⟨w.heap.size, 0, none⟩) N N) N ((backL 2 row g wn s n N).map (Value.int .i64)) ∧ Below w.heap.size w wr) := Lib.hid ⟨hrow.out.1, hrow.out.2.below HZ.out (by rw [HnB.out]; omega) (fun k e => by rw [e]; exact Nat.le_refl _)⟩
      clear hin2 hrow
      go_wp2_with fail
      go_ret
      exact ⟨_, _, rfl, P.out.1, P.out.2⟩
end Go.Proofs.Ytdimpgojamhakaa

/-
  The walk of the statement PoolBacks.
-/
namespace Go.Proofs.Ytdimpgojamhakaa
open Go.RowKit
set_option linter.unusedVariables false
set_option linter.unusedSimpArgs false

theorem refback8_any (kd : Int) (hk : kd = 1 ∨ kd = 2) (ra : Option Addr) (N rc : Nat) (row : List Int) (ga : Option Addr) (gl gc : Nat) (g : List Int) (wn s n : Nat) (w : World) (h : IntsAt w ra N row) (hg : IntsAt w ga gl g) (hn : ∀ i, i < n ↔ i * s + wn ≤ N) (h1 : 1 ≤ wn) (h2 : wn ≤ 1024) (s1 : 1 ≤ s) (s2 : s ≤ 1024) (hN : N ≤ 65536) (hn1 : 1 ≤ n) (hnL : n ≤ N) (hgl : n ≤ gl) (hgl6 : gl ≤ 65536) :
    Calls Try.prog 21 #[.int .i64 kd, .slice ra N rc, .slice ga gl gc, .int .i64 wn, .int .i64 s] w fun e w' => ∃ A c, e = .returned (.slice A N c) ∧ w'.ownsRow w.heap.size 2 1 (.slice A N c) N ((backL kd row g wn s n N).map (Value.int .i64)) ∧ Below w.heap.size w w' := by
  rcases hk with rfl | rfl
  · exact refback8_1 ra N rc row ga gl gc g wn s n w h hg hn h1 h2 s1 s2 hN hn1 hnL hgl hgl6
  · exact refback8_2 ra N rc row ga gl gc g wn s n w h hg hn h1 h2 s1 s2 hN hn1 hnL hgl hgl6

set_option maxRecDepth 100000 in
set_option maxHeartbeats 4000000 in
theorem poolBacks_big (kd : Int) (x G : TV) (wd st : Int) (w : World) (hs : small8 x G = false) :
    Calls Try.prog 5 #[.agg #[.int .i64 kd, .slice x.sa x.sl x.sc, .slice x.ca x.cl x.cc, .slice G.sa G.sl G.sc, .slice G.ca G.cl G.cc, .int .i64 wd, .int .i64 st]] w fun e w' => e = .returned (.bool true) ∧ Below w.heap.size w w' := by
  have SM := Lib.hid (fun w1 => hs ▸ small8_any kd x G wd st w1)
  clear hs
  obtain ⟨wA, hwA, J, z, -⟩ := case8_box w (.int .i64 kd) (.slice x.sa x.sl x.sc) (.slice x.ca x.cl x.cc) (.slice G.sa G.sl G.sc) (.slice G.ca G.cl G.cc) (.int .i64 wd) (.int .i64 st)
  obtain ⟨j0, ⟨j1, j2⟩, ⟨j3, j4⟩, j5, j6⟩ := (J.out).see
  go_enter Try.func5, Try.ntmps5
  go_upto_region 1 with (fail)
  rw [hwA.out]
  go_wp2_with fail
  refine (SM.out wA).mono ?_
  rintro e w1 ⟨rfl, hb1⟩
  have b1 := Lib.hid (z.out.trans (hb1.mono z.out.size))
  have K1 := Lib.hid (J.out.kept hb1)
  clear SM hb1 j0 j1 j2 j3 j4 j5 j6
  have bz := b1
  clear K1
  go_wp2_with fail
  refine (awake08_any _).mono ?_
  rintro e w9 ⟨rfl, hb9⟩
  go_wp2_with fail
  go_ret
  exact ⟨rfl, bz.out.trans (hb9.mono bz.out.size)⟩

set_option maxRecDepth 100000 in
set_option maxHeartbeats 8000000 in
theorem poolBacks_no (kd : Int) (x G : TV) (wd st : Int) (w : World) (hx : x.At w) (hs : small8 x G = true) (hE : kindE kd x.ss x.cl wd st ≠ 0) :
    Calls Try.prog 5 #[.agg #[.int .i64 kd, .slice x.sa x.sl x.sc, .slice x.ca x.cl x.cc, .slice G.sa G.sl G.sc, .slice G.ca G.cl G.cc, .int .i64 wd, .int .i64 st]] w fun e w' => e = .returned (.bool true) ∧ Below w.heap.size w w' := by
  have SM := Lib.hid (fun w1 => hs ▸ small8_any kd x G wd st w1)
  have BA := fun w1 (hb : Below w.heap.size w w1) => pback_no kd x G wd st w1 (hx.kept hb) hE
  have FI := fun w1 (hb : Below w.heap.size w w1) => refused8_any kd x G wd st w1 (hx.kept hb)
  have TO := fun w1 (hb : Below w.heap.size w w1) => told8_any x.sa x.sl x.sc x.ss wd st w1 (hx.1.kept hb)
  obtain ⟨v, hv⟩ : ∃ v, kindE kd x.ss x.cl wd st = v := ⟨_, rfl⟩
  rw [hv] at FI BA hE
  replace BA := Lib.hid BA
  replace FI := Lib.hid FI
  have hv0 : ¬ v = 0 := hE
  by_cases h0 : psE x.ss wd st = 0
  · replace TO := Lib.hid (fun w1 hb => (TO w1 hb).mono fun e w' h => h.1 h0)
    clear hs hx hE hv h0
    obtain ⟨wA, hwA, J, z, -⟩ := case8_box w (.int .i64 kd) (.slice x.sa x.sl x.sc) (.slice x.ca x.cl x.cc) (.slice G.sa G.sl G.sc) (.slice G.ca G.cl G.cc) (.int .i64 wd) (.int .i64 st)
    obtain ⟨j0, ⟨j1, j2⟩, ⟨j3, j4⟩, j5, j6⟩ := (J.out).see
    go_enter Try.func5, Try.ntmps5
    go_upto_region 1 with (fail)
    rw [hwA.out]
    go_wp2_with fail
    refine (SM.out wA).mono ?_
    rintro e w1 ⟨rfl, hb1⟩
    have b1 := Lib.hid (z.out.trans (hb1.mono z.out.size))
    have K1 := Lib.hid (J.out.kept hb1)
    clear SM hb1 j0 j1 j2 j3 j4 j5 j6
    obtain ⟨j0, ⟨j1, j2⟩, ⟨j3, j4⟩, j5, j6⟩ := (K1.out).see
    go_wp2_with fail
    refine (BA.out w1 b1.out).mono ?_
    rintro e w2 ⟨rfl, hb2⟩
    obtain ⟨wC, hwC, JY, zC, nC⟩ := grid_box w2 (.slice none 0 0) (.slice none 0 0)
    have k2 := Lib.hid (hb2.trans (zC.out.mono hb2.size))
    have b2 := Lib.hid (b1.out.trans (k2.out.mono b1.out.size))
    have K2 := Lib.hid (K1.out.kept k2.out)
    clear hb2 BA K1 j0 j1 j2 j3 j4 j5 j6
    go_upto_region 4 with (fail)
    rw [hwC.out]
    obtain ⟨j0, ⟨j1, j2⟩, ⟨j3, j4⟩, j5, j6⟩ := (K2.out).see
    go_wp2_with fail
    refine (FI.out wC b2.out).mono ?_
    rintro e w3 ⟨rfl, hb3⟩
    have k3 := Lib.hid hb3
    have b3 := Lib.hid (b2.out.trans (hb3.mono b2.out.size))
    have K3 := Lib.hid (K2.out.kept hb3)
    clear hb3 FI K2 j0 j1 j2 j3 j4 j5 j6
    obtain ⟨j0, ⟨j1, j2⟩, ⟨j3, j4⟩, j5, j6⟩ := (K3.out).see
    go_wp2_with fail
    refine (TO.out w3 b3.out).mono ?_
    rintro e w4 ⟨A4, c4, rfl, o4, hb4⟩
    have k4 := Lib.hid (k3.out.trans (hb4.mono k3.out.size))
    have b4 := Lib.hid (b3.out.trans (hb4.mono b3.out.size))
    have K4 := Lib.hid (K3.out.kept hb4)
    clear hb4 TO K3 j0 j1 j2 j3 j4 j5 j6 o4
    obtain ⟨l0, l1, -, -⟩ := (JY.out.kept k4.out).see
    have bz := b4
    go_wp2_with fail
    refine (awake08_any _).mono ?_
    rintro e w9 ⟨rfl, hb9⟩
    go_wp2_with fail
    go_ret
    exact ⟨rfl, bz.out.trans (hb9.mono bz.out.size)⟩
  · replace TO := Lib.hid (fun w1 hb => (TO w1 hb).mono fun e w' h => h.2 h0)
    obtain ⟨u, hu⟩ : ∃ u, psE x.ss wd st = u := ⟨_, rfl⟩
    rw [hu] at TO
    clear hs hx hE hv h0 hu
    obtain ⟨wA, hwA, J, z, -⟩ := case8_box w (.int .i64 kd) (.slice x.sa x.sl x.sc) (.slice x.ca x.cl x.cc) (.slice G.sa G.sl G.sc) (.slice G.ca G.cl G.cc) (.int .i64 wd) (.int .i64 st)
    obtain ⟨j0, ⟨j1, j2⟩, ⟨j3, j4⟩, j5, j6⟩ := (J.out).see
    go_enter Try.func5, Try.ntmps5
    go_upto_region 1 with (fail)
    rw [hwA.out]
    go_wp2_with fail
    refine (SM.out wA).mono ?_
    rintro e w1 ⟨rfl, hb1⟩
    have b1 := Lib.hid (z.out.trans (hb1.mono z.out.size))
    have K1 := Lib.hid (J.out.kept hb1)
    clear SM hb1 j0 j1 j2 j3 j4 j5 j6
    obtain ⟨j0, ⟨j1, j2⟩, ⟨j3, j4⟩, j5, j6⟩ := (K1.out).see
    go_wp2_with fail
    refine (BA.out w1 b1.out).mono ?_
    rintro e w2 ⟨rfl, hb2⟩
    obtain ⟨wC, hwC, JY, zC, nC⟩ := grid_box w2 (.slice none 0 0) (.slice none 0 0)
    have k2 := Lib.hid (hb2.trans (zC.out.mono hb2.size))
    have b2 := Lib.hid (b1.out.trans (k2.out.mono b1.out.size))
    have K2 := Lib.hid (K1.out.kept k2.out)
    clear hb2 BA K1 j0 j1 j2 j3 j4 j5 j6
    go_upto_region 4 with (fail)
    rw [hwC.out]
    obtain ⟨j0, ⟨j1, j2⟩, ⟨j3, j4⟩, j5, j6⟩ := (K2.out).see
    go_wp2_with fail
    refine (FI.out wC b2.out).mono ?_
    rintro e w3 ⟨rfl, hb3⟩
    have k3 := Lib.hid hb3
    have b3 := Lib.hid (b2.out.trans (hb3.mono b2.out.size))
    have K3 := Lib.hid (K2.out.kept hb3)
    clear hb3 FI K2 j0 j1 j2 j3 j4 j5 j6
    obtain ⟨j0, ⟨j1, j2⟩, ⟨j3, j4⟩, j5, j6⟩ := (K3.out).see
    go_wp2_with fail
    refine (TO.out w3 b3.out).mono ?_
    rintro e w4 ⟨rfl, hb4⟩
    have k4 := Lib.hid (k3.out.trans (hb4.mono k3.out.size))
    have b4 := Lib.hid (b3.out.trans (hb4.mono b3.out.size))
    have K4 := Lib.hid (K3.out.kept hb4)
    clear hb4 TO K3 j0 j1 j2 j3 j4 j5 j6
    obtain ⟨l0, l1, -, -⟩ := (JY.out.kept k4.out).see
    have bz := b4
    go_wp2_with fail
    refine (awake08_any _).mono ?_
    rintro e w9 ⟨rfl, hb9⟩
    go_wp2_with fail
    go_ret
    exact ⟨rfl, bz.out.trans (hb9.mono bz.out.size)⟩

set_option maxRecDepth 100000 in
set_option maxHeartbeats 8000000 in
theorem poolBacks_bad (kd : Int) (x G : TV) (wd st : Int) (w : World) (hx : x.At w) (hG : G.At w) (hs : small8 x G = true) (hE : kindE kd x.ss x.cl wd st = 0) (hgo : gOk G (psS x.ss wd st) = false) :
    Calls Try.prog 5 #[.agg #[.int .i64 kd, .slice x.sa x.sl x.sc, .slice x.ca x.cl x.cc, .slice G.sa G.sl G.sc, .slice G.ca G.cl G.cc, .int .i64 wd, .int .i64 st]] w fun e w' => e = .returned (.bool true) ∧ Below w.heap.size w w' := by
  obtain ⟨-, hr, hps⟩ := kindE_parts hE
  have hlen := (psE_len hps).2
  have HPS := Lib.hid (psS_fits hps)
  have SM := Lib.hid (fun w1 => hs ▸ small8_any kd x G wd st w1)
  have BA := fun w1 (hb : Below w.heap.size w w1) => pback_bad kd x G wd st w1 (hx.kept hb) (hG.kept hb) hE hgo
  have FI := fun w1 (hb : Below w.heap.size w w1) => refused8_any kd x G wd st w1 (hx.kept hb)
  have TO := fun w1 (hb : Below w.heap.size w w1) => told8_any x.sa x.sl x.sc x.ss wd st w1 (hx.1.kept hb)
  rw [hE] at FI
  have RG := fun w1 (hb : Below w.heap.size w w1) => rright8_any G.sa G.sl G.sc G.ss G.ca G.cl G.cc w1 (hG.1.kept hb) (by have := hG.2.2.2; omega)
  have SG := fun A c w1 (hb : Below w.heap.size w w1) (hi : IntsAt w1 A x.ss.length (psS x.ss wd st)) => same_any G.sa G.sl G.sc G.ss A x.ss.length c (psS x.ss wd st) w1 (hG.1.kept hb) hi
  replace TO := Lib.hid (fun w1 hb => (TO w1 hb).mono fun e w' h => h.1 hps)
  replace BA := Lib.hid BA
  replace FI := Lib.hid FI
  unfold gOk at hgo
  cases b1 : rightT G.ss G.cl
  · simp only [b1] at RG
    replace RG := Lib.hid RG
    clear SG hgo b1 hx hG hs hE hr hps
    obtain ⟨wA, hwA, J, z, -⟩ := case8_box w (.int .i64 kd) (.slice x.sa x.sl x.sc) (.slice x.ca x.cl x.cc) (.slice G.sa G.sl G.sc) (.slice G.ca G.cl G.cc) (.int .i64 wd) (.int .i64 st)
    obtain ⟨j0, ⟨j1, j2⟩, ⟨j3, j4⟩, j5, j6⟩ := (J.out).see
    go_enter Try.func5, Try.ntmps5
    go_upto_region 1 with (fail)
    rw [hwA.out]
    go_wp2_with fail
    refine (SM.out wA).mono ?_
    rintro e w1 ⟨rfl, hb1⟩
    have b1 := Lib.hid (z.out.trans (hb1.mono z.out.size))
    have K1 := Lib.hid (J.out.kept hb1)
    clear SM hb1 j0 j1 j2 j3 j4 j5 j6
    obtain ⟨j0, ⟨j1, j2⟩, ⟨j3, j4⟩, j5, j6⟩ := (K1.out).see
    go_wp2_with fail
    refine (BA.out w1 b1.out).mono ?_
    rintro e w2 ⟨rfl, hb2⟩
    obtain ⟨wC, hwC, JY, zC, nC⟩ := grid_box w2 (.slice none 0 0) (.slice none 0 0)
    have k2 := Lib.hid (hb2.trans (zC.out.mono hb2.size))
    have b2 := Lib.hid (b1.out.trans (k2.out.mono b1.out.size))
    have K2 := Lib.hid (K1.out.kept k2.out)
    clear hb2 BA K1 j0 j1 j2 j3 j4 j5 j6
    go_upto_region 4 with (fail)
    rw [hwC.out]
    obtain ⟨j0, ⟨j1, j2⟩, ⟨j3, j4⟩, j5, j6⟩ := (K2.out).see
    go_wp2_with fail
    refine (FI.out wC b2.out).mono ?_
    rintro e w3 ⟨rfl, hb3⟩
    have k3 := Lib.hid hb3
    have b3 := Lib.hid (b2.out.trans (hb3.mono b2.out.size))
    have K3 := Lib.hid (K2.out.kept hb3)
    clear hb3 FI K2 j0 j1 j2 j3 j4 j5 j6
    obtain ⟨j0, ⟨j1, j2⟩, ⟨j3, j4⟩, j5, j6⟩ := (K3.out).see
    go_wp2_with fail
    refine (TO.out w3 b3.out).mono ?_
    rintro e w4 ⟨A4, c4, rfl, o4, hb4⟩
    have k4 := Lib.hid (k3.out.trans (hb4.mono k3.out.size))
    have b4 := Lib.hid (b3.out.trans (hb4.mono b3.out.size))
    have K4 := Lib.hid (K3.out.kept hb4)
    have I4 := Lib.hid (row_ints o4 (show x.ss.length ≤ 9223372036854775807 by omega) HPS.out)
    clear hb4 TO K3 j0 j1 j2 j3 j4 j5 j6 o4
    obtain ⟨j0, ⟨j1, j2⟩, ⟨j3, j4⟩, j5, j6⟩ := (K4.out).see
    go_wp2_with fail
    refine (RG.out w4 b4.out).mono ?_
    rintro e w5 ⟨rfl, hb5⟩
    have k5 := Lib.hid (k4.out.trans (hb5.mono k4.out.size))
    have b5 := Lib.hid (b4.out.trans (hb5.mono b4.out.size))
    have K5 := Lib.hid (K4.out.kept hb5)
    have I5 := Lib.hid (I4.out.kept hb5)
    clear hb5 RG K4 I4 j0 j1 j2 j3 j4 j5 j6
    obtain ⟨l0, l1, -, -⟩ := (JY.out.kept k5.out).see
    have bz := b5
    go_wp2_with fail
    refine (awake08_any _).mono ?_
    rintro e w9 ⟨rfl, hb9⟩
    go_wp2_with fail
    go_ret
    exact ⟨rfl, bz.out.trans (hb9.mono bz.out.size)⟩
  · simp only [b1] at RG hgo
    have hS : sameL G.ss (psS x.ss wd st) = false := by simpa using hgo
    simp only [hS] at SG
    replace RG := Lib.hid RG
    replace SG := Lib.hid SG
    clear hgo b1 hx hG hs hE hr hps hS
    obtain ⟨wA, hwA, J, z, -⟩ := case8_box w (.int .i64 kd) (.slice x.sa x.sl x.sc) (.slice x.ca x.cl x.cc) (.slice G.sa G.sl G.sc) (.slice G.ca G.cl G.cc) (.int .i64 wd) (.int .i64 st)
    obtain ⟨j0, ⟨j1, j2⟩, ⟨j3, j4⟩, j5, j6⟩ := (J.out).see
    go_enter Try.func5, Try.ntmps5
    go_upto_region 1 with (fail)
    rw [hwA.out]
    go_wp2_with fail
    refine (SM.out wA).mono ?_
    rintro e w1 ⟨rfl, hb1⟩
    have b1 := Lib.hid (z.out.trans (hb1.mono z.out.size))
    have K1 := Lib.hid (J.out.kept hb1)
    clear SM hb1 j0 j1 j2 j3 j4 j5 j6
    obtain ⟨j0, ⟨j1, j2⟩, ⟨j3, j4⟩, j5, j6⟩ := (K1.out).see
    go_wp2_with fail
    refine (BA.out w1 b1.out).mono ?_
    rintro e w2 ⟨rfl, hb2⟩
    obtain ⟨wC, hwC, JY, zC, nC⟩ := grid_box w2 (.slice none 0 0) (.slice none 0 0)
    have k2 := Lib.hid (hb2.trans (zC.out.mono hb2.size))
    have b2 := Lib.hid (b1.out.trans (k2.out.mono b1.out.size))
    have K2 := Lib.hid (K1.out.kept k2.out)
    clear hb2 BA K1 j0 j1 j2 j3 j4 j5 j6
    go_upto_region 4 with (fail)
    rw [hwC.out]
    obtain ⟨j0, ⟨j1, j2⟩, ⟨j3, j4⟩, j5, j6⟩ := (K2.out).see
    go_wp2_with fail
    refine (FI.out wC b2.out).mono ?_
    rintro e w3 ⟨rfl, hb3⟩
    have k3 := Lib.hid hb3
    have b3 := Lib.hid (b2.out.trans (hb3.mono b2.out.size))
    have K3 := Lib.hid (K2.out.kept hb3)
    clear hb3 FI K2 j0 j1 j2 j3 j4 j5 j6
    obtain ⟨j0, ⟨j1, j2⟩, ⟨j3, j4⟩, j5, j6⟩ := (K3.out).see
    go_wp2_with fail
    refine (TO.out w3 b3.out).mono ?_
    rintro e w4 ⟨A4, c4, rfl, o4, hb4⟩
    have k4 := Lib.hid (k3.out.trans (hb4.mono k3.out.size))
    have b4 := Lib.hid (b3.out.trans (hb4.mono b3.out.size))
    have K4 := Lib.hid (K3.out.kept hb4)
    have I4 := Lib.hid (row_ints o4 (show x.ss.length ≤ 9223372036854775807 by omega) HPS.out)
    clear hb4 TO K3 j0 j1 j2 j3 j4 j5 j6 o4
    obtain ⟨j0, ⟨j1, j2⟩, ⟨j3, j4⟩, j5, j6⟩ := (K4.out).see
    go_wp2_with fail
    refine (RG.out w4 b4.out).mono ?_
    rintro e w5 ⟨rfl, hb5⟩
    have k5 := Lib.hid (k4.out.trans (hb5.mono k4.out.size))
    have b5 := Lib.hid (b4.out.trans (hb5.mono b4.out.size))
    have K5 := Lib.hid (K4.out.kept hb5)
    have I5 := Lib.hid (I4.out.kept hb5)
    clear hb5 RG K4 I4 j0 j1 j2 j3 j4 j5 j6
    obtain ⟨j0, ⟨j1, j2⟩, ⟨j3, j4⟩, j5, j6⟩ := (K5.out).see
    go_wp2_with fail
    refine (SG.out A4 c4 w5 b5.out I5.out).mono ?_
    rintro e w6 ⟨rfl, m, rfl⟩
    have k6 := Lib.hid (below_drewN' k5.out m)
    have b6 := Lib.hid (below_drewN' b5.out m)
    clear SG K5 j0 j1 j2 j3 j4 j5 j6
    obtain ⟨l0, l1, -, -⟩ := (JY.out.kept k6.out).see
    have bz := b6
    go_wp2_with fail
    refine (awake08_any _).mono ?_
    rintro e w9 ⟨rfl, hb9⟩
    go_wp2_with fail
    go_ret
    exact ⟨rfl, bz.out.trans (hb9.mono bz.out.size)⟩

set_option maxRecDepth 100000 in
set_option maxHeartbeats 16000000 in
theorem poolBacks_ok (kd : Int) (x G : TV) (wd st : Int) (w : World) (hx : x.At w ∧ x.Cap) (hG : G.At w) (hs : small8 x G = true) (hE : kindE kd x.ss x.cl wd st = 0) (hgo : gOk G (psS x.ss wd st) = true) :
    Calls Try.prog 5 #[.agg #[.int .i64 kd, .slice x.sa x.sl x.sc, .slice x.ca x.cl x.cc, .slice G.sa G.sl G.sc, .slice G.ca G.cl G.cc, .int .i64 wd, .int .i64 st]] w fun e w' => e = .returned (.bool true) ∧ Below w.heap.size w w' := by
  obtain ⟨s1, s2, s3, s4⟩ := small8_parts hs
  obtain ⟨hkd, hr, hps⟩ := kindE_parts hE
  obtain ⟨hr1, hr2⟩ := rightT_parts hr
  obtain ⟨p1, p2, -, -⟩ := rightS_parts hr1
  obtain ⟨side, wn, s, n, R, hp⟩ := pool_numbers hps
  have hcl : x.cl = R * side := by have := hp.cells; omega
  have hsl : x.ss.length = x.sl := hx.1.1.1
  have hgk : rightT G.ss G.cl = true ∧ sameL G.ss (psS x.ss wd st) = true := by unfold gOk at hgo; simpa using hgo
  have hsame : G.ss = psS x.ss wd st := by have := hgk.2; unfold sameL at this; simpa using this
  have hgcl : G.cl = R * n := by have := (rightT_parts hgk.1).2; rw [hsame, hp.out] at this; omega
  have HPS := Lib.hid (psS_fits hps)
  have SM := Lib.hid (fun w1 => hs ▸ small8_any kd x G wd st w1)
  have BA := fun w1 (hb : Below w.heap.size w w1) => pback_ok kd x G wd st side wn s n R w1 (hx.1.kept hb) hx.2 (hG.kept hb) hE hgo hp
  have FI := Lib.hid (fun w1 (hb : Below w.heap.size w w1) => hE ▸ refused8_any kd x G wd st w1 (hx.1.kept hb))
  have TO := fun w1 (hb : Below w.heap.size w w1) => (told8_any x.sa x.sl x.sc x.ss wd st w1 (hx.1.1.kept hb)).mono fun e w' h => h.1 hps
  have RG := Lib.hid (fun w1 (hb : Below w.heap.size w w1) => hgk.1 ▸ rright8_any G.sa G.sl G.sc G.ss G.ca G.cl G.cc w1 (hG.1.kept hb) (by have := hG.2.2.2; omega))
  have SG := fun A c w1 (hb : Below w.heap.size w w1) (hi : IntsAt w1 A x.ss.length (psS x.ss wd st)) => same_any G.sa G.sl G.sc G.ss A x.ss.length c (psS x.ss wd st) w1 (hG.1.kept hb) hi
  simp only [hgk.2] at SG
  have CX := Lib.hid (fun w1 (hb : Below w.heap.size w w1) => cells8_any x.ca x.cl x.cc x.cs w1 (hx.1.2.1.kept hb) (by omega))
  have CG := Lib.hid (fun w1 (hb : Below w.heap.size w w1) => cells8_any G.ca G.cl G.cc G.cs w1 (hG.2.1.kept hb) (by omega))
  have XS := Lib.hid (fun w1 (hb : Below w.heap.size w w1) => hx.1.1.kept hb)
  have HXS := Lib.hid hx.1.1.2.2.1
  have HXF := Lib.hid hx.1.2.1.2.2.1
  have HGF := Lib.hid hG.2.1.2.2.1
  obtain ⟨k, hk⟩ : ∃ k, x.sl = k + 1 := ⟨x.sl - 1, by omega⟩
  obtain ⟨sb, so, hsa, hscell⟩ := ints_cell hx.1.1 (by omega)
  have hlast : x.ss.getD k 0 = side := by rw [← hp.last]; unfold lastI; rw [hsl, hk]; rfl
  have hsc := hscell k (by omega)
  rw [hlast] at hsc
  have HSC := Lib.hid (fun w1 (hb : Below w.heap.size w w1) => cell_later hb hsc)
  have HON : Hid ((psS x.ss wd st).getD k 0 = n) := Lib.hid (by
    unfold psS
    rw [hsl, hk, hp.winN]
    have : k < x.ss.length := by omega
    simp [List.getD, this])
  have ek : (x.sl : Int) - 1 = (k : Int) := by omega
  have ek2 : (k : Int) < (x.sl : Int) := by omega
  have ek3 : IntKind.i64.wrap (k : Int) = (k : Int) := IntWalk.i64_in _ (by omega)
  have ek4 : k < x.sl := by omega
  have hn1 : 1 ≤ n := hp.n1
  have hn2 : 0 < n := hp.n1
  have hw1 : 1 ≤ wn := hp.w1
  have hw2 : wn ≤ 1024 := hp.w2
  have hs1 : 1 ≤ s := hp.s1
  have hs2 : s ≤ 1024 := hp.s2
  have hsd : side ≤ 1024 := hp.side2
  have hsd1 : 1 ≤ side := by have := hp.ws; omega
  have hnle : n ≤ side := hp.nle
  have hRn : R * n ≤ 65536 := Nat.le_trans hp.outle hp.most
  have hR6 : R ≤ 65536 := Nat.le_trans (Nat.le_mul_of_pos_right R (by omega)) hp.most
  have HWIN := Lib.hid (fun i => hp.win (i := i))
  have HRS := Lib.hid (fun r => backRows_succ kd x.cs G.cs side wn s n r)
  have HRR := Lib.hid hp.R1
  have hxl : x.sl ≤ 9 := by omega
  have ewd := hp.wdE
  have est := hp.stE
  subst ewd est
  obtain ⟨cl, hclE⟩ : ∃ cl, x.cl = cl := ⟨_, rfl⟩
  rw [hclE] at CX hcl s3 ⊢
  obtain ⟨M, hME⟩ : ∃ M, G.cl = M := ⟨_, rfl⟩
  rw [hME] at CG RG hgcl s4 ⊢
  have HCL := Lib.hid hcl
  have HM := Lib.hid hgcl
  have hcl0 : 0 < cl := by rw [hcl]; exact Nat.mul_pos hp.R1 hsd1
  have hM0 : 0 < M := by rw [hgcl]; exact Nat.mul_pos hp.R1 hn2
  obtain ⟨os, hos⟩ : ∃ os, psS x.ss (wn : Int) (s : Int) = os := ⟨_, rfl⟩
  obtain ⟨L, hL⟩ : ∃ L, backRows kd x.cs G.cs side wn s n R = L := ⟨_, rfl⟩
  have HLF0 : Fits L := by
    rw [← hL]
    intro t ht
    obtain ⟨r, -, ht⟩ := partsL_mem.1 ht
    exact backL_fits _ _ _ _ _ _ _ t ht
  have HLF := Lib.hid HLF0
  rw [hclE, hME, ← hcl, hL, hsl] at BA
  rw [hos, hsl] at TO
  rw [hos] at HPS HON
  simp only [hos, hsl] at SG
  rw [hsa] at BA TO ⊢
  have HLE := Lib.hid hL
  simp only [hclE, hME, hsa] at SM FI XS
  replace BA := Lib.hid BA
  replace TO := Lib.hid TO
  replace SG := Lib.hid SG
  have HKD := Lib.hid hkd
  clear hr hps hr1 hr2 p1 p2 hp hcl hgcl hsl hx hG hs hE hgo hsa hscell hsc hlast hos hL HLF0 hclE hME s1 s2 hk hgk hsame hkd
  obtain ⟨wA, hwA, J, z, -⟩ := case8_box w (.int .i64 kd) (.slice (some ⟨sb, so, none⟩) x.sl x.sc) (.slice x.ca cl x.cc) (.slice G.sa G.sl G.sc) (.slice G.ca M G.cc) (.int .i64 (wn : Int)) (.int .i64 (s : Int))
  obtain ⟨j0, ⟨j1, j2⟩, ⟨j3, j4⟩, j5, j6⟩ := (J.out).see
  go_enter Try.func5, Try.ntmps5
  go_upto_region 1 with (fail)
  rw [hwA.out]
  go_wp2_with fail
  refine (SM.out wA).mono ?_
  rintro e w1 ⟨rfl, hb1⟩
  have b1 := Lib.hid (z.out.trans (hb1.mono z.out.size))
  have K1 := Lib.hid (J.out.kept hb1)
  clear SM hb1 j0 j1 j2 j3 j4 j5 j6
  obtain ⟨j0, ⟨j1, j2⟩, ⟨j3, j4⟩, j5, j6⟩ := (K1.out).see
  go_wp2_with fail
  refine (BA.out w1 b1.out).mono ?_
  rintro e w2 ⟨v', rfl, Y, yc, Y', yc', rfl, o1, o2, -, hb2⟩
  obtain ⟨wC, hwC, JY, zC, nC⟩ := grid_box w2 (.slice Y x.sl yc) (.slice Y' cl yc')
  have k2 := Lib.hid (hb2.trans (zC.out.mono hb2.size))
  have b2 := Lib.hid (b1.out.trans (k2.out.mono b1.out.size))
  have K2 := Lib.hid (K1.out.kept k2.out)
  have IS := Lib.hid ((row_ints o1 (show x.sl ≤ 9223372036854775807 by omega) HXS.out).kept zC.out)
  have IC := Lib.hid ((row_ints o2 (show cl ≤ 9223372036854775807 by omega) HLF.out).kept zC.out)
  clear hb2 BA o1 o2 K1 j0 j1 j2 j3 j4 j5 j6
  go_upto_region 4 with (fail)
  rw [hwC.out]
  obtain ⟨j0, ⟨j1, j2⟩, ⟨j3, j4⟩, j5, j6⟩ := (K2.out).see
  go_wp2_with fail
  refine (FI.out wC b2.out).mono ?_
  rintro e w3 ⟨rfl, hb3⟩
  have k3 := Lib.hid hb3
  have b3 := Lib.hid (b2.out.trans (hb3.mono b2.out.size))
  have K3 := Lib.hid (K2.out.kept hb3)
  clear hb3 FI K2 j0 j1 j2 j3 j4 j5 j6
  obtain ⟨j0, ⟨j1, j2⟩, ⟨j3, j4⟩, j5, j6⟩ := (K3.out).see
  go_wp2_with fail
  refine (TO.out w3 b3.out).mono ?_
  rintro e w4 ⟨A4, c4, rfl, o4, hb4⟩
  obtain ⟨g4, c4', hv⟩ := Joins.ownsRow_form o4 (by omega)
  simp only [Value.slice.injEq] at hv
  obtain ⟨rfl, -, rfl⟩ := hv
  have k4 := Lib.hid (k3.out.trans (hb4.mono k3.out.size))
  have b4 := Lib.hid (b3.out.trans (hb4.mono b3.out.size))
  have K4 := Lib.hid (K3.out.kept hb4)
  have I4 := Lib.hid (row_ints o4 (show x.sl ≤ 9223372036854775807 by omega) HPS.out)
  clear hb4 TO o4 K3 j0 j1 j2 j3 j4 j5 j6
  obtain ⟨j0, ⟨j1, j2⟩, ⟨j3, j4⟩, j5, j6⟩ := (K4.out).see
  go_wp2_with fail
  refine (RG.out w4 b4.out).mono ?_
  rintro e w5 ⟨rfl, hb5⟩
  have k5 := Lib.hid (k4.out.trans (hb5.mono k4.out.size))
  have b5 := Lib.hid (b4.out.trans (hb5.mono b4.out.size))
  have K5 := Lib.hid (K4.out.kept hb5)
  have I5 := Lib.hid (I4.out.kept hb5)
  clear hb5 RG K4 I4 j0 j1 j2 j3 j4 j5 j6
  obtain ⟨j0, ⟨j1, j2⟩, ⟨j3, j4⟩, j5, j6⟩ := (K5.out).see
  go_wp2_with fail
  refine (SG.out _ c4 w5 b5.out I5.out).mono ?_
  rintro e w6 ⟨rfl, m, rfl⟩
  have k6 := Lib.hid (below_drewN' k5.out m)
  have b6 := Lib.hid (below_drewN' b5.out m)
  have K6 := Lib.hid (K5.out.kept (below_drewN' (Below.refl _ _) m))
  have I6 := Lib.hid (I5.out.kept (below_drewN' (Below.refl _ _) m))
  have csc := HSC.out _ b6.out
  have c4n : (w5.drewN m).cell? ⟨g4, k, none⟩ = some (.int .i64 (n : Int)) := by
    rcases I6.out.2.2.2 with h5 | ⟨b', off', ha, hcx⟩
    · omega
    · cases ha
      have := hcx k ek4
      rw [Nat.zero_add, HON.out] at this
      exact this
  obtain ⟨wM, hwM⟩ : ∃ wM, w5.drewN m = wM := ⟨_, rfl⟩
  rw [hwM] at k6 b6 K6 I6 csc c4n ⊢
  clear SG K5 I5 hwM j0 j1 j2 j3 j4 j5 j6
  obtain ⟨j0, ⟨j1, j2⟩, ⟨j3, j4⟩, j5, j6⟩ := (K6.out).see
  go_wp2_with fail
  go_quiet (fail)
  obtain ⟨wN, hwN⟩ : ∃ wN, wM.drewN nq = wN := ⟨_, rfl⟩
  have kMN : Below wM.heap.size wM wN := by rw [← hwN]; exact below_drewN' (Below.refl _ _) nq
  have k7a := Lib.hid (k6.out.trans (kMN.mono k6.out.size))
  have b7a := Lib.hid (b6.out.trans (kMN.mono b6.out.size))
  have K7a := Lib.hid (K6.out.kept kMN)
  rw [hwN]
  have SK11 := Lib.hid (fun w' (hb : Below wN.heap.size wN w') => (show w'.cell? ⟨w.heap.size, 2, none⟩ = some (.slice x.ca cl x.cc) ∧ w'.cell? ⟨w.heap.size, 4, none⟩ = some (.slice G.ca M G.cc) from by
    obtain ⟨-, ⟨-, j2⟩, ⟨-, j4⟩, -, -⟩ := (K7a.out.kept hb).see
    exact ⟨j2, j4⟩))
  have t11 := Lib.hid (show Below wN.heap.size wN wN.drew from (Below.refl _ _).drew)
  have bN := Lib.hid (b7a.out.trans (t11.out.mono b7a.out.size))
  clear K6 I6 csc c4n hwN kMN j0 j1 j2 j3 j4 j5 j6
  go_upto_region 11 with (fail)
  refine wp_region_held_drew (S := fun w' => w'.cell? ⟨w.heap.size, 2, none⟩ = some (.slice x.ca cl x.cc) ∧ w'.cell? ⟨w.heap.size, 4, none⟩ = some (.slice G.ca M G.cc)) (by kernel_rfl) (SK11.out _ t11.out) (fun hHeld => ?_)
  refine held_take 0 (.pointer (some ⟨w.heap.size, 1, none⟩)) rfl (by kernel_rfl) (by kernel_rfl) (by kernel_rfl) (fun _ _ _ h => h) (by rfl) (by intro w' hS; go_simp) (by assumption) ?_
  try simp only [Act.put, List.setIfInBounds_toArray, List.set_cons_zero, List.set_cons_succ]
  refine held_take 1 (.pointer (some ⟨w.heap.size, 2, none⟩)) rfl (by kernel_rfl) (by kernel_rfl) (by kernel_rfl) (fun _ _ _ h => h) (by rfl) (by intro w' hS; go_simp) (by assumption) ?_
  try simp only [Act.put, List.setIfInBounds_toArray, List.set_cons_zero, List.set_cons_succ]
  refine held_take 2 (.slice x.ca cl x.cc) rfl (by kernel_rfl) (by kernel_rfl) (by kernel_rfl) (fun _ _ _ h => h) (by rfl) (by intro w' hS; go_simp) (by assumption) ?_
  try simp only [Act.put, List.setIfInBounds_toArray, List.set_cons_zero, List.set_cons_succ]
  refine held_take 4 (.pointer (some ⟨w.heap.size, 3, none⟩)) rfl (by kernel_rfl) (by kernel_rfl) (by kernel_rfl) (fun _ _ _ h => h) (by rfl) (by intro w' hS; go_simp) (by assumption) ?_
  try simp only [Act.put, List.setIfInBounds_toArray, List.set_cons_zero, List.set_cons_succ]
  refine held_take 5 (.pointer (some ⟨w.heap.size, 4, none⟩)) rfl (by kernel_rfl) (by kernel_rfl) (by kernel_rfl) (fun _ _ _ h => h) (by rfl) (by intro w' hS; go_simp) (by assumption) ?_
  try simp only [Act.put, List.setIfInBounds_toArray, List.set_cons_zero, List.set_cons_succ]
  refine held_take 6 (.slice G.ca M G.cc) rfl (by kernel_rfl) (by kernel_rfl) (by kernel_rfl) (fun _ _ _ h => h) (by rfl) (by intro w' hS; go_simp) (by assumption) ?_
  try simp only [Act.put, List.setIfInBounds_toArray, List.set_cons_zero, List.set_cons_succ]
  refine held_call 3 (by kernel_rfl) rfl (by rfl) (fun K hK => ?_)
  go_simp
  refine (CX.out wN.drew bN.out).mono ?_
  rintro e w6 ⟨A9, c9, rfl, o9, hb6⟩
  obtain ⟨g9, c9', hv⟩ := Joins.ownsRow_form o9 hcl0
  simp only [Value.slice.injEq] at hv
  obtain ⟨rfl, -, rfl⟩ := hv
  have hcap9 := row_caps o9
  have k6 := Lib.hid (t11.out.trans (hb6.mono t11.out.size))
  have b6 := Lib.hid (bN.out.trans (hb6.mono bN.out.size))
  have I9 := Lib.hid (row_ints o9 (by omega) HXF.out)
  clear hb6 o9
  go_wp2_with fail
  refine hK.out _ _ (SK11.out _ k6.out) (fun hHeld => ?_)
  try simp only [Act.put, List.setIfInBounds_toArray, List.set_cons_zero, List.set_cons_succ]
  refine held_call 7 (by kernel_rfl) rfl (by rfl) (fun K hK => ?_)
  go_simp
  refine (CG.out w6 b6.out).mono ?_
  rintro e w7 ⟨A7, c7, rfl, o7, hb7⟩
  obtain ⟨g7, c7', hv⟩ := Joins.ownsRow_form o7 hM0
  simp only [Value.slice.injEq] at hv
  obtain ⟨rfl, -, rfl⟩ := hv
  have hcap7 := row_caps o7
  have k7 := Lib.hid (k6.out.trans (hb7.mono k6.out.size))
  have b7 := Lib.hid (b6.out.trans (hb7.mono b6.out.size))
  have I7 := Lib.hid (row_ints o7 (by omega) HGF.out)
  have I97 := Lib.hid (I9.out.kept hb7)
  clear hb7 o7 I9
  go_wp2_with fail
  refine hK.out _ _ (SK11.out _ k7.out) (fun hHeld => ?_)
  try simp only [Act.put, List.setIfInBounds_toArray, List.set_cons_zero, List.set_cons_succ]
  refine held_take 8 (.slice (some ⟨g9, 0, none⟩) cl c9) rfl (by kernel_rfl) (by kernel_rfl) (by kernel_rfl) (fun _ _ _ h => h) (by rfl) (by intro w' hS; go_simp) (by assumption) ?_
  try simp only [Act.put, List.setIfInBounds_toArray, List.set_cons_zero, List.set_cons_succ]
  refine held_take 9 (.slice (some ⟨g7, 0, none⟩) M c7) rfl (by kernel_rfl) (by kernel_rfl) (by kernel_rfl) (fun _ _ _ h => h) (by rfl) (by intro w' hS; go_simp) (by assumption) ?_
  try simp only [Act.put, List.setIfInBounds_toArray, List.set_cons_zero, List.set_cons_succ]
  refine wpAnyH_done (by kernel_rfl) ?_ _
  have K7 := Lib.hid (K7a.out.kept k7.out)
  have kk7 := Lib.hid (k7a.out.trans (k7.out.mono k7a.out.size))
  clear SK11 t11 CX CG K7a
  go_wp2_with fail
  go_loopw [12, 13] (fun tt a wr => ∃ (r q : Nat) (t : Value), t = tt ∧ r ≤ R ∧ a = .int .i64 r ∧ Hid (q = r * side) ∧ Hid (wr.ownsRow w7.heap.size 2 1 t q ((backRows kd x.cs G.cs side wn s n r).map (Value.int .i64))) ∧ Hid (Below w7.heap.size w7 wr)) (fun _ a _ => R - (intOf a).toNat)
  case atStart => exact ⟨0, 0, _, rfl, Nat.zero_le _, rfl, Lib.hid (by simp), Lib.hid (by unfold backRows; rw [partsL_zero]; exact World.ownsRow_nil _ _ _ _), Lib.hid (Below.refl _ _)⟩
  case round =>
    obtain ⟨r, q, t, rfl, hrR, rfl, hq, hrow, hbr⟩ := hrel
    by_cases hrl2 : r < R
    · obtain ⟨q2, hq2⟩ : ∃ q2, (r + 1) * side = q2 := ⟨_, rfl⟩
      obtain ⟨e, he⟩ : ∃ e, r * n = e := ⟨_, rfl⟩
      obtain ⟨e2, he2⟩ : ∃ e2, (r + 1) * n = e2 := ⟨_, rfl⟩
      have hqq : q2 = q + side := by rw [← hq2, hq.out, Nat.succ_mul]
      have hee : e2 = e + n := by rw [← he2, ← he, Nat.succ_mul]
      have hqs : q2 ≤ cl := by rw [HCL.out, ← hq2]; exact Nat.mul_le_mul_right side hrl2
      have hes : e2 ≤ M := by rw [HM.out, ← he2]; exact Nat.mul_le_mul_right n hrl2
      have hq6 : q ≤ 600 := by omega
      have hq26 : q2 ≤ 600 := by omega
      have he6 : e ≤ 600 := by omega
      have he26 : e2 ≤ 600 := by omega
      have m1 : IntKind.i64.wrap ((r : Int) * (side : Int)) = (q : Int) := wmul hq.out.symm (by omega)
      have m2 : IntKind.i64.wrap (((r : Int) + 1) * (side : Int)) = (q2 : Int) := by have := wmul hq2 (by omega); rwa [show ((r + 1 : Nat) : Int) = (r : Int) + 1 by omega] at this
      have m3 : IntKind.i64.wrap ((r : Int) * (n : Int)) = (e : Int) := wmul he (by omega)
      have m4 : IntKind.i64.wrap (((r : Int) + 1) * (n : Int)) = (e2 : Int) := by have := wmul he2 (by omega); rwa [show ((r + 1 : Nat) : Int) = (r : Int) + 1 by omega] at this
      have m5 : IntKind.i64.wrap ((r : Int) + 1) = (r : Int) + 1 := IntWalk.i64_in _ (by omega)
      have hlt : (q : Int) < (cl : Int) := by omega
      have hln7 : q + side ≤ 1000000 := by omega
      have hln8 : 0 < q2 := by omega
      have N1 : Hid (q2 = (r + 1) * side) := Lib.hid hq2.symm
      have HLN : Hid (q2 = q + side) := Lib.hid hqq
      have RR : Hid (∀ w1, Below wr.heap.size wr w1 → Calls Try.prog 21 #[.int .i64 kd, .slice (some ⟨g9, q, none⟩) side (c9 - q), .slice (some ⟨g7, e, none⟩) n (c7 - e), .int .i64 wn, .int .i64 s] w1 fun e' w' => ∃ A c, e' = .returned (.slice A side c) ∧ w'.ownsRow w1.heap.size 2 1 (.slice A side c) side ((backL kd ((x.cs.drop q).take side) ((G.cs.drop e).take n) wn s n side).map (Value.int .i64)) ∧ Below w1.heap.size w1 w') := Lib.hid (fun w1 hb => by
        have h0 := ((I97.out.kept hbr.out).kept hb).win q side (by omega)
        have h1 := ((I7.out.kept hbr.out).kept hb).win e n (by omega)
        rw [Nat.zero_add] at h0 h1
        exact refback8_any kd HKD.out _ side _ _ _ n _ _ wn s n w1 h0 h1 (fun i => HWIN.out i) hw1 hw2 hs1 hs2 (by omega) hn1 hnle (Nat.le_refl _) (by omega))
      have HST : Hid (backRows kd x.cs G.cs side wn s n r ++ backL kd ((x.cs.drop q).take side) ((G.cs.drop e).take n) wn s n side = backRows kd x.cs G.cs side wn s n (r + 1)) := Lib.hid (by rw [HRS.out r, ← hq.out, ← he])
      obtain ⟨L0, hL0⟩ : ∃ L0, backRows kd x.cs G.cs side wn s n r = L0 := ⟨_, rfl⟩
      rw [hL0] at hrow HST
      have CASEK : Hid (∀ w', Below w7.heap.size w7 w' → (w'.cell? ⟨w.heap.size, 0, none⟩ = some (.int .i64 kd) ∧ w'.cell? ⟨w.heap.size, 5, none⟩ = some (.int .i64 wn) ∧ w'.cell? ⟨w.heap.size, 6, none⟩ = some (.int .i64 s))) := Lib.hid (fun w' hb => by
        obtain ⟨j0, -, -, j5, j6⟩ := (K7.out.kept hb).see
        exact ⟨j0, j5, j6⟩)
      have SK : Hid (∀ w', Below wr.heap.size wr w' → (w'.cell? ⟨w.heap.size, 0, none⟩ = some (.int .i64 kd) ∧ w'.cell? ⟨w.heap.size, 5, none⟩ = some (.int .i64 wn) ∧ w'.cell? ⟨w.heap.size, 6, none⟩ = some (.int .i64 s))) := Lib.hid (fun w' hb => CASEK.out w' (hbr.out.trans (hb.mono hbr.out.size)))
      have t1 := Lib.hid (show Below wr.heap.size wr wr.drew from (Below.refl _ _).drew)
      have y1 : (0 : Int) ≤ (q : Int) := by omega
      have y2 : (q : Int) ≤ (q2 : Int) := by omega
      have y5 : q2 - q = side := by omega
      have y7 : (q2 : Int) ≤ (c9 : Int) := by omega
      have y8 : ¬ c9 = q := by omega
      have u1 : (0 : Int) ≤ (e : Int) := by omega
      have u2 : (e : Int) ≤ (e2 : Int) := by omega
      have u5 : e2 - e = n := by omega
      have u7 : (e2 : Int) ≤ (c7 : Int) := by omega
      have u8 : ¬ c7 = e := by omega
      have hr7 : r ≤ 65536 := by omega
      clear hL0 hq2 he he2 hqq hee
      go_upto_region 16 with (fail)
      refine wp_region_held_drew (S := fun w' => w'.cell? ⟨w.heap.size, 0, none⟩ = some (.int .i64 kd) ∧ w'.cell? ⟨w.heap.size, 5, none⟩ = some (.int .i64 wn) ∧ w'.cell? ⟨w.heap.size, 6, none⟩ = some (.int .i64 s)) (by kernel_rfl) (SK.out _ t1.out) (fun hHeld => ?_)
      refine held_take 0 (t) rfl (by kernel_rfl) (by kernel_rfl) (by kernel_rfl) (fun _ _ _ h => h) (by rfl) (by intro w' hS; go_simp) (by assumption) ?_
      try simp only [Act.put, List.setIfInBounds_toArray, List.set_cons_zero, List.set_cons_succ]
      refine held_take 1 (.pointer (some ⟨w.heap.size, 0, none⟩)) rfl (by kernel_rfl) (by kernel_rfl) (by kernel_rfl) (fun _ _ _ h => h) (by rfl) (by intro w' hS; go_simp) (by assumption) ?_
      try simp only [Act.put, List.setIfInBounds_toArray, List.set_cons_zero, List.set_cons_succ]
      refine held_take 2 (.int .i64 kd) rfl (by kernel_rfl) (by kernel_rfl) (by kernel_rfl) (fun _ _ _ h => h) (by rfl) (by intro w' hS; go_simp) (by assumption) ?_
      try simp only [Act.put, List.setIfInBounds_toArray, List.set_cons_zero, List.set_cons_succ]
      refine held_take 3 (.slice (some ⟨g9, 0, none⟩) cl c9) rfl (by kernel_rfl) (by kernel_rfl) (by kernel_rfl) (fun _ _ _ h => h) (by rfl) (by intro w' hS; go_simp) (by assumption) ?_
      try simp only [Act.put, List.setIfInBounds_toArray, List.set_cons_zero, List.set_cons_succ]
      refine held_take 4 (.int .i64 r) rfl (by kernel_rfl) (by kernel_rfl) (by kernel_rfl) (fun _ _ _ h => h) (by rfl) (by intro w' hS; go_simp) (by assumption) ?_
      try simp only [Act.put, List.setIfInBounds_toArray, List.set_cons_zero, List.set_cons_succ]
      refine held_take 5 (.int .i64 side) rfl (by kernel_rfl) (by kernel_rfl) (by kernel_rfl) (fun _ _ _ h => h) (by rfl) (by intro w' hS; go_simp) (by assumption) ?_
      try simp only [Act.put, List.setIfInBounds_toArray, List.set_cons_zero, List.set_cons_succ]
      refine held_take 6 (.int .i64 q) rfl (by kernel_rfl) (by kernel_rfl) (by kernel_rfl) (fun _ _ _ h => h) (by rfl) (by intro w' hS; go_simp) (by assumption) ?_
      try simp only [Act.put, List.setIfInBounds_toArray, List.set_cons_zero, List.set_cons_succ]
      refine held_take 7 (.int .i64 r) rfl (by kernel_rfl) (by kernel_rfl) (by kernel_rfl) (fun _ _ _ h => h) (by rfl) (by intro w' hS; go_simp) (by assumption) ?_
      try simp only [Act.put, List.setIfInBounds_toArray, List.set_cons_zero, List.set_cons_succ]
      refine held_take 8 (.int .i64 ((r : Int) + 1)) rfl (by kernel_rfl) (by kernel_rfl) (by kernel_rfl) (fun _ _ _ h => h) (by rfl) (by intro w' hS; go_simp) (by assumption) ?_
      try simp only [Act.put, List.setIfInBounds_toArray, List.set_cons_zero, List.set_cons_succ]
      refine held_take 9 (.int .i64 side) rfl (by kernel_rfl) (by kernel_rfl) (by kernel_rfl) (fun _ _ _ h => h) (by rfl) (by intro w' hS; go_simp) (by assumption) ?_
      try simp only [Act.put, List.setIfInBounds_toArray, List.set_cons_zero, List.set_cons_succ]
      refine held_take 10 (.int .i64 q2) rfl (by kernel_rfl) (by kernel_rfl) (by kernel_rfl) (fun _ _ _ h => h) (by rfl) (by intro w' hS; go_simp) (by assumption) ?_
      try simp only [Act.put, List.setIfInBounds_toArray, List.set_cons_zero, List.set_cons_succ]
      refine held_take 11 (.slice (some ⟨g9, q, none⟩) side (c9 - q)) rfl (by kernel_rfl) (by kernel_rfl) (by kernel_rfl) (fun _ _ _ h => h) (by rfl) (by intro w' hS; go_simp) (by assumption) ?_
      try simp only [Act.put, List.setIfInBounds_toArray, List.set_cons_zero, List.set_cons_succ]
      refine held_take 12 (.slice (some ⟨g7, 0, none⟩) M c7) rfl (by kernel_rfl) (by kernel_rfl) (by kernel_rfl) (fun _ _ _ h => h) (by rfl) (by intro w' hS; go_simp) (by assumption) ?_
      try simp only [Act.put, List.setIfInBounds_toArray, List.set_cons_zero, List.set_cons_succ]
      refine held_take 13 (.int .i64 r) rfl (by kernel_rfl) (by kernel_rfl) (by kernel_rfl) (fun _ _ _ h => h) (by rfl) (by intro w' hS; go_simp) (by assumption) ?_
      try simp only [Act.put, List.setIfInBounds_toArray, List.set_cons_zero, List.set_cons_succ]
      refine held_take 14 (.int .i64 n) rfl (by kernel_rfl) (by kernel_rfl) (by kernel_rfl) (fun _ _ _ h => h) (by rfl) (by intro w' hS; go_simp) (by assumption) ?_
      try simp only [Act.put, List.setIfInBounds_toArray, List.set_cons_zero, List.set_cons_succ]
      refine held_take 15 (.int .i64 e) rfl (by kernel_rfl) (by kernel_rfl) (by kernel_rfl) (fun _ _ _ h => h) (by rfl) (by intro w' hS; go_simp) (by assumption) ?_
      try simp only [Act.put, List.setIfInBounds_toArray, List.set_cons_zero, List.set_cons_succ]
      refine held_take 16 (.int .i64 r) rfl (by kernel_rfl) (by kernel_rfl) (by kernel_rfl) (fun _ _ _ h => h) (by rfl) (by intro w' hS; go_simp) (by assumption) ?_
      try simp only [Act.put, List.setIfInBounds_toArray, List.set_cons_zero, List.set_cons_succ]
      refine held_take 17 (.int .i64 ((r : Int) + 1)) rfl (by kernel_rfl) (by kernel_rfl) (by kernel_rfl) (fun _ _ _ h => h) (by rfl) (by intro w' hS; go_simp) (by assumption) ?_
      try simp only [Act.put, List.setIfInBounds_toArray, List.set_cons_zero, List.set_cons_succ]
      refine held_take 18 (.int .i64 n) rfl (by kernel_rfl) (by kernel_rfl) (by kernel_rfl) (fun _ _ _ h => h) (by rfl) (by intro w' hS; go_simp) (by assumption) ?_
      try simp only [Act.put, List.setIfInBounds_toArray, List.set_cons_zero, List.set_cons_succ]
      refine held_take 19 (.int .i64 e2) rfl (by kernel_rfl) (by kernel_rfl) (by kernel_rfl) (fun _ _ _ h => h) (by rfl) (by intro w' hS; go_simp) (by assumption) ?_
      try simp only [Act.put, List.setIfInBounds_toArray, List.set_cons_zero, List.set_cons_succ]
      refine held_take 20 (.slice (some ⟨g7, e, none⟩) n (c7 - e)) rfl (by kernel_rfl) (by kernel_rfl) (by kernel_rfl) (fun _ _ _ h => h) (by rfl) (by intro w' hS; go_simp) (by assumption) ?_
      try simp only [Act.put, List.setIfInBounds_toArray, List.set_cons_zero, List.set_cons_succ]
      refine held_take 21 (.pointer (some ⟨w.heap.size, 5, none⟩)) rfl (by kernel_rfl) (by kernel_rfl) (by kernel_rfl) (fun _ _ _ h => h) (by rfl) (by intro w' hS; go_simp) (by assumption) ?_
      try simp only [Act.put, List.setIfInBounds_toArray, List.set_cons_zero, List.set_cons_succ]
      refine held_take 22 (.int .i64 wn) rfl (by kernel_rfl) (by kernel_rfl) (by kernel_rfl) (fun _ _ _ h => h) (by rfl) (by intro w' hS; go_simp) (by assumption) ?_
      try simp only [Act.put, List.setIfInBounds_toArray, List.set_cons_zero, List.set_cons_succ]
      refine held_take 23 (.pointer (some ⟨w.heap.size, 6, none⟩)) rfl (by kernel_rfl) (by kernel_rfl) (by kernel_rfl) (fun _ _ _ h => h) (by rfl) (by intro w' hS; go_simp) (by assumption) ?_
      try simp only [Act.put, List.setIfInBounds_toArray, List.set_cons_zero, List.set_cons_succ]
      refine held_take 24 (.int .i64 s) rfl (by kernel_rfl) (by kernel_rfl) (by kernel_rfl) (fun _ _ _ h => h) (by rfl) (by intro w' hS; go_simp) (by assumption) ?_
      try simp only [Act.put, List.setIfInBounds_toArray, List.set_cons_zero, List.set_cons_succ]
      refine held_call 25 (by kernel_rfl) rfl (by rfl) (fun K hK => ?_)
      go_simp
      refine (RR.out wr.drew t1.out).mono ?_
      rintro ee wq ⟨A8, c8, rfl, o8, hb8⟩
      obtain ⟨g8, c8', hv⟩ := Joins.ownsRow_form o8 hsd1
      simp only [Value.slice.injEq] at hv
      obtain ⟨rfl, -, rfl⟩ := hv
      have I8 := Lib.hid (row_ints o8 (by omega) (backL_fits _ _ _ _ _ _ _))
      have b8 := Lib.hid (t1.out.trans (hb8.mono t1.out.size))
      have r8 := Lib.hid (row_kept hrow.out b8.out)
      have hb8w := Lib.hid (hbr.out.trans (b8.out.mono hbr.out.size))
      clear o8 hb8
      go_wp2_with fail
      refine hK.out _ _ (SK.out _ b8.out) (fun hHeld => ?_)
      try simp only [Act.put, List.setIfInBounds_toArray, List.set_cons_zero, List.set_cons_succ]
      refine held_call 26 (by kernel_rfl) rfl (by rfl) (fun K hK => ?_)
      refine wp_append_ints _ _ 41 2 rfl Try.underlying41 (by kernel_rfl) w7.heap.size _ q L0 rfl r8.out _ side c8 _ rfl I8.out (fun e => by cases e) hln7 hb8w.out.size ?_
      rintro v5 w5 o5 g5 -
      rw [← HLN.out, HST.out] at o5
      have o5' := Lib.hid o5
      have B5 := hb8w.out.grown g5 hb8w.out.size (fun q hq => (r8.out.lt q hq).1)
      have hB5 := Lib.hid B5
      have S5 := CASEK.out w5 B5
      obtain ⟨g5', c5, rfl⟩ := Joins.ownsRow_form o5 hln8
      clear o5 g5 B5
      refine hK.out _ _ S5 (fun hHeld => ?_)
      try simp only [Act.put, List.setIfInBounds_toArray, List.set_cons_zero, List.set_cons_succ]
      refine held_take 27 (.slice (some ⟨g5', 0, none⟩) q2 c5) rfl (by kernel_rfl) (by kernel_rfl) (by kernel_rfl) (fun _ _ _ h => h) (by rfl) (by intro w' hS; go_simp) (by assumption) ?_
      try simp only [Act.put, List.setIfInBounds_toArray, List.set_cons_zero, List.set_cons_succ]
      refine wpAnyH_done (by kernel_rfl) ?_ _
      clear y1 y2 y5 y7 y8 u1 u2 u5 u7 u8 m1 m2 m3 m4
      go_wp2_with fail
      go_roundw
      case rel => exact ⟨r + 1, q2, _, rfl, by omega, by go_num, N1, o5', hB5⟩
      case measure => (simp [intOf]; try omega)
    · have hrE : r = R := by omega
      have hqc : q = cl := by rw [hq.out, hrE, HCL.out]
      have m1 : IntKind.i64.wrap ((r : Int) * (side : Int)) = (cl : Int) := wmul (by rw [← hqc, hq.out]) (by omega)
      rw [hrE, hqc, HLE.out] at hrow
      obtain ⟨g6, c6, e6⟩ := Joins.ownsRow_form hrow.out hcl0
      subst e6
      have kr := Lib.hid (kk7.out.trans (hbr.out.mono kk7.out.size))
      have br := Lib.hid (b7.out.trans (hbr.out.mono b7.out.size))
      have WI := Lib.hid (row_ints hrow.out (by omega) HLF.out)
      have YS := Lib.hid (IS.out.kept kr.out)
      have YC := Lib.hid (IC.out.kept kr.out)
      have ZS := Lib.hid (XS.out wr br.out)
      have KR := Lib.hid (K7.out.kept hbr.out)
      obtain ⟨l0, l1, -, -⟩ := (JY.out.kept kr.out).see
      have SAM1 := same_any Y x.sl yc x.ss (some ⟨sb, so, none⟩) x.sl x.sc x.ss wr YS.out ZS.out
      rw [sameL_self] at SAM1
      have SAM2 := Lib.hid SAM1
      have SME := Lib.hid (fun m => same8_any Y' cl yc' L (some ⟨g6, 0, none⟩) c6 (wr.drewN m) (YC.out.kept (below_drewN' (Below.refl _ _) m)) (WI.out.kept (below_drewN' (Below.refl _ _) m)))
      have JK := Lib.hid (fun m => ((JY.out.kept kr.out).kept (below_drewN' (Below.refl _ _) m)).see)
      have hr7 : r ≤ 65536 := by omega
      clear SAM1 hrow hrE hqc hq
      obtain ⟨j0, ⟨j1, j2⟩, ⟨j3, j4⟩, j5, j6⟩ := (KR.out).see
      go_wp2_with fail
      refine SAM2.out.mono ?_
      rintro e wu ⟨rfl, m, rfl⟩
      obtain ⟨m0, m1, -, -⟩ := JK.out m
      clear j0 j1 j2 j3 j4 j5 j6
      go_wp2_with fail
      refine (SME.out m).mono ?_
      rintro e wu ⟨rfl, m2, rfl⟩
      have bz := Lib.hid (below_drewN' br.out (m + m2))
      go_wp2_with fail
      refine (awake08_any _).mono ?_
      rintro e wz ⟨rfl, hbz⟩
      go_wp2_with fail
      go_ret
      exact ⟨rfl, bz.out.trans (hbz.mono bz.out.size)⟩

theorem poolBacks_walk (kd : Int) (x G : TV) (wd st : Int) (w : World) (hx : x.At w ∧ x.Cap ∧ x.CapS) (hG : G.At w ∧ G.Cap ∧ G.CapS) :
    Calls Try.prog 5 #[.agg #[.int .i64 kd, .slice x.sa x.sl x.sc, .slice x.ca x.cl x.cc, .slice G.sa G.sl G.sc, .slice G.ca G.cl G.cc, .int .i64 wd, .int .i64 st]] w fun e w' => e = .returned (.bool true) ∧ Below w.heap.size w w' := by
  cases hs : small8 x G
  · exact poolBacks_big kd x G wd st w hs
  · by_cases hE : kindE kd x.ss x.cl wd st = 0
    · cases hgo : gOk G (psS x.ss wd st)
      · exact poolBacks_bad kd x G wd st w hx.1 hG.1 hs hE hgo
      · exact poolBacks_ok kd x G wd st w ⟨hx.1, hx.2.1⟩ hG.1 hs hE hgo
    · exact poolBacks_no kd x G wd st w hx.1 hs hE
end Go.Proofs.Ytdimpgojamhakaa

