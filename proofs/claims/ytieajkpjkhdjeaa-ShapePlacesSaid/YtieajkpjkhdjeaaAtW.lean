/-
  The contract of package shape's At.
-/
import Derived.Test.YtieajkpjkhdjeaaBackW
import Derived.Test.YtieajkpjkhdjeaaHas
import Derived.Test.YtieajkpjkhdjeaaDigits
import Derived.Test.YtieajkpjkhdjeaaShapeS
import Derived.Laws.MakeOwn
namespace Go.Proofs.Ytieajkpjkhdjeaa
open Go.RowKit Go.Shelf
attribute [local go_sem] Oper.semAt_some
set_option linter.unusedVariables false
set_option linter.unusedSimpArgs false

set_option maxHeartbeats 2000000 in
theorem at_wrong (a : Option Addr) (len cap : Nat) (zs : List Int) (place : Int) (w : World) (h : IntsAt w a len zs) (hn : rightS zs = false) :
    Calls Try.prog 17 #[.slice a len cap, .int .i64 place] w (NilE w 20) := by
  have z0 : Below w.heap.size w (w.alloc (.cells #[.int .i64 place] 3)) := (Below.refl _ _).alloc (Nat.le_refl _) _
  have C := size_any a len cap zs _ (h.kept z0)
  rw [sizeE_no hn, sizeN_no hn] at C
  have C1 := Lib.hid C
  have Z := Lib.hid z0
  clear C hn h z0
  go_enter Try.func17, Try.ntmps17
  go_wp2_with fail
  refine C1.out.mono ?_
  rintro e w1 ⟨rfl, hb⟩
  go_wp2_with fail
  go_ret2
  exact ⟨rfl, Z.out.trans (hb.mono Z.out.size)⟩

set_option maxHeartbeats 2000000 in
theorem at_none (a : Option Addr) (len cap : Nat) (zs : List Int) (place : Int) (w : World) (h : IntsAt w a len zs) (hn : rightS zs = true) (hp : ¬ (0 ≤ place ∧ place < prodI zs)) :
    Calls Try.prog 17 #[.slice a len cap, .int .i64 place] w (NilE w 11) := by
  have z0 : Below w.heap.size w (w.alloc (.cells #[.int .i64 place] 3)) := (Below.refl _ _).alloc (Nat.le_refl _) _
  have C := size_any a len cap zs _ (h.kept z0)
  have c0 : (w.alloc (.cells #[.int .i64 place] 3)).cell? ⟨w.heap.size, 0, none⟩ = some (.int .i64 place) := by rw [World.cell?_alloc_at _ _ _ _ rfl]; rfl
  rw [sizeE_yes hn, sizeN_yes hn] at C
  have K := Lib.hid (fun w1 (hb : Below (w.alloc (.cells #[.int .i64 place] 3)).heap.size (w.alloc (.cells #[.int .i64 place] 3)) w1) => cell_later hb c0)
  have C1 := Lib.hid C
  have Z := Lib.hid z0
  generalize prodI zs = n at *
  clear C hn h z0 c0
  by_cases hp0 : place < 0
  · clear hp
    go_enter Try.func17, Try.ntmps17
    go_wp2_with fail
    refine C1.out.mono ?_
    rintro e w1 ⟨rfl, hb⟩
    have k := K.out w1 hb
    go_wp2_with fail
    go_ret2
    exact ⟨rfl, Z.out.trans (hb.mono Z.out.size)⟩
  · have hp1 : n ≤ place := by omega
    clear hp
    go_enter Try.func17, Try.ntmps17
    go_wp2_with fail
    refine C1.out.mono ?_
    rintro e w1 ⟨rfl, hb⟩
    have k := K.out w1 hb
    go_wp2_with fail
    go_ret2
    exact ⟨rfl, Z.out.trans (hb.mono Z.out.size)⟩

set_option maxHeartbeats 400000 in
theorem backward_any (a : Option Addr) (len cap : Nat) (w : World) :
    Calls Try.prog 29 #[.slice a len cap] w fun e w' => e = .returned (.func (.func 37) #[] #[.pointer (some ⟨w.heap.size, 0, none⟩)]) ∧ w.alloc (.cells #[.slice a len cap] 23) = w' := by
  have hmf : ∀ (fn : Fn) (first cap : Array Value) (w : World), (Instr.makeFunc fn first cap).run Try.prog w = .ok (.func fn first cap) w := fun _ _ _ _ => rfl
  go_enter Try.func29, Try.ntmps29
  go_wp2_with fail
  go_ret
  exact ⟨rfl, rfl⟩

theorem back_fold (zs : List Int) (hr : allR 1 1024 zs = true) (p : Int) : ∀ k, k ≤ zs.length → (backL zs k).foldl atStep (p / prodI (zs.drop k), List.replicate k 0 ++ digs (zs.drop k) p) = (p / prodI zs, digs zs p) := by
  intro k
  induction k with
  | zero => intro _; simp [backL]
  | succ k ih =>
    intro hk
    rw [← ih (by omega)]
    obtain ⟨x1, x2⟩ := allR_getD hr k (by omega)
    have S1 := prodI_pos (allR_drop hr (k + 1))
    simp only [backL, List.foldl_cons, atStep]
    congr 2
    · rw [drop_cons zs k (by omega), prodI_cons, Int.mul_comm, Int.ediv_ediv_of_nonneg (by omega)]
    · rw [set_mid, drop_cons zs k (by omega)]
      rfl
theorem back_all (zs : List Int) (hr : allR 1 1024 zs = true) (p : Int) : (backL zs zs.length).foldl atStep (p, List.replicate zs.length 0) = (p / prodI zs, digs zs p) := by
  have := back_fold zs hr p zs.length (Nat.le_refl _)
  rw [List.drop_of_length_le (Nat.le_refl _)] at this
  simpa [prodI, digs] using this
theorem back_mem (zs : List Int) : ∀ (k : Nat) (x : Nat × Int), x ∈ backL zs k → x.1 < k ∧ x.2 = zs.getD x.1 0 := by
  intro k
  induction k with
  | zero => intro x hx; simp [backL] at hx
  | succ k ih =>
    intro x hx
    simp only [backL, List.mem_cons] at hx
    rcases hx with rfl | hx
    · exact ⟨by simp, rfl⟩
    · have := ih x hx; exact ⟨by omega, this.2⟩
theorem fold_bounds : ∀ (pre : List (Nat × Int)) (p : Int) (l : List Int), (∀ x ∈ pre, 1 ≤ x.2) → 0 ≤ p → 0 ≤ (pre.foldl atStep (p, l)).1 ∧ (pre.foldl atStep (p, l)).1 ≤ p ∧ (pre.foldl atStep (p, l)).2.length = l.length := by
  intro pre
  induction pre with
  | nil => intro p l _ h0; exact ⟨h0, Int.le_refl _, rfl⟩
  | cons x pre ih =>
    intro p l h h0
    have hx := h x (List.mem_cons_self ..)
    simp only [List.foldl_cons, atStep]
    obtain ⟨i1, i2, i3⟩ := ih (p / x.2) (l.set x.1 (p % x.2)) (fun y hy => h y (List.mem_cons_of_mem _ hy)) (Int.ediv_nonneg h0 (by omega))
    have := Int.ediv_le_self x.2 h0
    exact ⟨i1, by omega, by rw [i3, List.length_set]⟩

theorem int_made (t : TypeId) (ht : Try.prog.underlying t = some (.slice 3)) (len : Nat) (hl : len ≤ 1000) : ∀ w, (Instr.makeSlice t (.int .i64 len) (.int .i64 len)).run Try.prog w = .ok (.slice (some ⟨w.heap.size, 0, none⟩) len len) (w.alloc (.cells (madeCells #[.int .i64 0] len) 3)) := by
  intro w
  obtain ⟨i0, hi, hz0, hz1, hz2⟩ := info_parts intInfo
  have := run_make (P := Try.prog) w t 3 i0 _ ht hi hz0 .i64 .i64 len len (by omega) (by omega) (by rw [hz2]; omega) (by omega)
  rw [this, hz1]
  simp [Value.cells]
theorem made_zeros (len : Nat) : madeCells #[.int .i64 0] len = ((List.replicate len (0 : Int)).map (Value.int .i64)).toArray := by
  apply Array.toList_inj.1
  rw [toList_madeCells_one]
  simp

/-- Between two rounds of At. -/
def atSt (len : Nat) (place : Int) (pre : List (Nat × Int)) : Int × List Int := pre.foldl atStep (place, List.replicate len 0)
def AtI (w : World) (G len : Nat) (place : Int) (pre : List (Nat × Int)) (O : BSet) (W : World) : Prop :=
  Has O W w.heap.size #[.int .i64 (atSt len place pre).1] 3 ∧ Has O W G ((atSt len place pre).2.map (Value.int .i64)).toArray 3 ∧ Has O W (G + 1) #[.slice (some ⟨G, 0, none⟩) len len] 22 ∧ Base w O W
theorem AtI.stable (w : World) (G len : Nat) (place : Int) (pre : List (Nat × Int)) : Stable (AtI w G len place pre) := fun O W O' W' h hs => ⟨h.1.stable hs, h.2.1.stable hs, h.2.2.1.stable hs, h.2.2.2.stable hs⟩
theorem atSt_snoc (len : Nat) (place : Int) (pre : List (Nat × Int)) (x : Nat × Int) : atSt len place (pre ++ [x]) = atStep (atSt len place pre) x := by unfold atSt; rw [List.foldl_append]; rfl

set_option maxRecDepth 100000 in
set_option maxHeartbeats 4000000 in
theorem at_ok (a : Option Addr) (len cap : Nat) (zs : List Int) (place : Int) (w : World) (h : IntsAt w a len zs) (hn : rightS zs = true) (h0 : 0 ≤ place) (h1 : place < prodI zs) :
    Calls Try.prog 17 #[.slice a len cap, .int .i64 place] w (NewE w len (digs zs place)) := by
  have z0 : Below w.heap.size w (w.alloc (.cells #[.int .i64 place] 3)) := (Below.refl _ _).alloc (Nat.le_refl _) _
  have C := size_any a len cap zs _ (h.kept z0)
  have c0 : (w.alloc (.cells #[.int .i64 place] 3)).cell? ⟨w.heap.size, 0, none⟩ = some (.int .i64 place) := by rw [World.cell?_alloc_at _ _ _ _ rfl]; rfl
  rw [sizeE_yes hn, sizeN_yes hn] at C
  have K := Lib.hid (fun w1 (hb : Below (w.alloc (.cells #[.int .i64 place] 3)).heap.size (w.alloc (.cells #[.int .i64 place] 3)) w1) => cell_later hb c0)
  have C1 := Lib.hid C
  have Z := Lib.hid z0
  have hlen : len ≤ 4 := by have := (rightS_parts hn).2.1; have := h.1; omega
  have hmk := int_made 22 Try.underlying22 len (by omega)
  have HN := Lib.hid hn
  have HI := Lib.hid h
  generalize hP : prodI zs = n at *
  replace hP := Lib.hid hP
  clear C hn h z0 c0
  refine (callsIn_wide (n := 1)).1 ?_
  refine callsIn_of_wp_marks Try.func17 rfl trivial ?_ rfl
  simp only [Try.ntmps17, List.size_toArray, List.length_cons, List.length_nil, Nat.reduceAdd, Nat.reduceSub, Array.replicate_succ, Array.replicate_zero, List.push_toArray, List.append_toArray, List.nil_append, List.cons_append]
  refine wpIn_wide.2 ?_
  go_wp2_with fail
  refine C1.out.mono ?_
  rintro e w1 ⟨rfl, hb⟩
  have k := K.out w1 hb
  go_wp2_with fail
  refine (backward_any _ _ _ _).mono ?_
  rintro e w' ⟨rfl, rfl⟩
  obtain ⟨W, hW⟩ : ∃ W, ((w1.alloc (.cells (madeCells #[.int .i64 0] len) 3)).alloc (.cells #[.slice (some ⟨w1.heap.size, 0, none⟩) len len] 22)).alloc (.cells #[.slice a len cap] 23) = W := ⟨_, rfl⟩
  obtain ⟨G, hG⟩ : ∃ G, w1.heap.size = G := ⟨_, rfl⟩
  have z1 : Below w.heap.size w w1 := Z.out.trans (hb.mono Z.out.size)
  have z2 : Below w1.heap.size w1 W := by rw [← hW]; exact (((Below.refl _ _).alloc (Nat.le_refl _) _).alloc (by simp) _).alloc (by simp; omega) _
  have hpP : w1.heap[w.heap.size]? = some (.cells #[.int .i64 place] 3 (0, 0)) := (hb.block _ (by simp)).trans (World.alloc_heap_new w _)
  have pP : Has (fun _ => False) W w.heap.size #[.int .i64 place] 3 := Has.below ⟨fun h => h, hpP⟩ z2
  have pG : Has (fun _ => False) W G ((List.replicate len (0 : Int)).map (Value.int .i64)).toArray 3 := by
    rw [← hW, ← made_zeros, ← hG]
    exact ((Has.made (O := fun _ => False) w1 _ _ (fun h => h)).below ((Below.refl _ _).alloc (Nat.le_refl _) _)).below ((Below.refl _ _).alloc (Nat.le_refl _) _)
  have pV : Has (fun _ => False) W (G + 1) #[.slice (some ⟨G, 0, none⟩) len len] 22 := by
    rw [← hW, ← hG]
    have := (Has.made (O := fun _ => False) (w1.alloc (.cells (madeCells #[.int .i64 0] len) 3)) #[.slice (some ⟨w1.heap.size, 0, none⟩) len len] 22 (fun h => h)).below ((Below.refl _ _).alloc (Nat.le_refl _) (.cells #[.slice a len cap] 23))
    rw [World.size_alloc] at this
    exact this
  have pB : W.cell? ⟨G + 2, 0, none⟩ = some (.slice a len cap) := by
    rw [← hW, World.cell?_alloc_at _ _ _ _ (by simp [hG])]
    rfl
  have hPG : w.heap.size < G := by
    have := hb.size; rw [← hG]; simp at this; omega
  have hsz : W.heap.size = G + 3 := by rw [← hW, ← hG]; simp
  have hIW : IntsAt W a len zs := (HI.out.kept z1).kept z2
  have hbase : Base w (fun _ => False) W := ⟨z1.trans (z2.mono z1.size), fun _ h => h.elim⟩
  rw [hG] at hW
  simp only [World.size_alloc, hG, Nat.add_assoc, Nat.reduceAdd]
  rw [hW]
  clear hW K k hmk C1 hb z2 hpP
  go_wp2_with fail
  refine (wpIn_wide (n := 1)).1 ?_
  have hlz : zs.length = len := hIW.1
  obtain ⟨b, off, ha, hcz⟩ : ∃ b off, a = some ⟨b, off, none⟩ ∧ ∀ j, j < len → W.cell? ⟨b, off + j, none⟩ = some (.int .i64 (zs.getD j 0)) := by
    rcases hIW.2.2.2 with h4 | ⟨b, off, ha, hc⟩
    · have := (rightS_parts HN.out).1; omega
    · exact ⟨b, off, ha, hc⟩
  have hbw : b < w.heap.size := by
    rcases HI.out.2.2.2 with h4 | ⟨b1, off1, ha1, hc1⟩
    · have := (rightS_parts HN.out).1; omega
    · rw [ha] at ha1; cases ha1
      exact World.block_lt_of_cell? w _ (hc1 0 (by have := (rightS_parts HN.out).1; omega))
  have hbW : b < W.heap.size := World.block_lt_of_cell? W _ (hcz 0 (by have := (rightS_parts HN.out).1; omega))
  refine range_law (gf := 37) (lb := #[.pointer (some ⟨G + 2, 0, none⟩)]) rfl (enters_of Try.func37 (by kernel_rfl) rfl) (back_iter (G + 2) a len cap zs) (fun _ _ => rfl) ?hR
    (fun _ _ _ _ _ _ _ _ _ _ _ => trivial) (fun W' hb' => ⟨cell_later hb' pB, hIW.kept hb'⟩)
    (AtI w G len place) (fun _ _ _ _ => False) (AtI.stable w G len place) (fun _ _ _ _ _ _ h _ => h) ⟨pP, pG, pV, hbase⟩ ?round ?done ?stop
  case hR =>
    rintro k (rfl | ⟨ad, had, rfl⟩)
    · omega
    · rw [ha] at had; cases had; exact hbW
  case stop =>
    intro D O c pre W' _ _ _ h
    exact h.elim
  case round =>
    intro l pre x y rest O Wa W2 hxs hI _
    obtain ⟨i, v⟩ := x
    obtain ⟨hx1, hx2⟩ := back_mem zs len (i, v) (by rw [hxs]; simp)
    have hpre : ∀ q ∈ pre, 1 ≤ q.2 := by
      intro q hq
      obtain ⟨e1, e2⟩ := back_mem zs len q (by rw [hxs]; simp [hq])
      rw [e2]
      exact (allR_getD (rightS_parts HN.out).2.2.1 q.1 (by omega)).1
    obtain ⟨v1, v2⟩ := allR_getD (rightS_parts HN.out).2.2.1 i (by simp at hx1; omega)
    simp only at hx1 hx2
    rw [← hx2] at v1 v2
    obtain ⟨f1, f2, f3⟩ := fold_bounds pre place (List.replicate len 0) hpre h0
    have hst := atSt_snoc len place pre (i, v)
    change 0 ≤ (atSt len place pre).1 at f1
    change (atSt len place pre).1 ≤ place at f2
    change (atSt len place pre).2.length = _ at f3
    rw [List.length_replicate] at f3
    unfold AtI at hI
    obtain ⟨⟨p, ls⟩, hpl⟩ : ∃ q, atSt len place pre = q := ⟨_, rfl⟩
    rw [hpl] at hI hst f1 f2 f3
    simp only [atStep] at hI hst f1 f2 f3
    obtain ⟨qP, qG, qV, qB⟩ := hI
    have cP : W2.cell? ⟨w.heap.size, 0, none⟩ = some (.int .i64 p) := qP.cell 0
    have cV : W2.cell? ⟨G + 1, 0, none⟩ = some (.slice (some ⟨G, 0, none⟩) len len) := qV.cell 0
    have cG : W2.cell? ⟨G, i, none⟩ = some (.int .i64 (ls.getD i 0)) := by rw [qG.cell i]; simp [List.getD, List.getElem?_eq_getElem (show i < ls.length by omega)]
    have fP := qP.frozen 0
    have fG := qG.frozen i
    have hp1 : p < 9223372036854775808 := by have := (rightS_parts HN.out).2.2.2; rw [hP.out] at this; omega
    have S := Lib.hid hst
    have Q := Lib.hid (And.intro qP (And.intro qG (And.intro qV qB)))
    have hne : ¬ w.heap.size = G := by omega
    have hx1' : (i : Int) < (len : Int) := by omega
    clear hst hpl hxs hpre hx2 qP qG qV qB h1
    gi_wp2
    refine ⟨trivial, ?_⟩
    gi_wp2_with fail
    refine region_cut (fun a => (((((a.put (some 33) (.slice (some ⟨G, 0, none⟩) len len)).put (some 34) (.int .i64 i)).put (some 35) (.int .i64 p)).put (some 36) (.int .i64 v)).put (some 37) (.int .i64 (p % v))).put (some 38) (.pointer (some ⟨G, i, none⟩)))
      (W2.setCell ⟨G, i, none⟩ (.int .i64 (p % v))).drew ?_ ?_
    · have mixed : Try.prog.follows .mixedOrders = true := by kernel_rfl
      gi_region_with_o (fail)
      all_goals exact ⟨rfl, by simp [Act.put], rfl⟩
    gi_wp2_with fail
    obtain ⟨qP, qG, qV, qB⟩ := Q.out
    have nG : ¬ (BackR (G + 2) a G ∨ O G) := by
      rintro ((h | ⟨ad, had, h⟩) | h)
      · omega
      · rw [ha] at had; cases had; simp only at h; omega
      · exact qG.1 h
    have nP : ¬ (BackR (G + 2) a w.heap.size ∨ O w.heap.size) := by
      rintro ((h | ⟨ad, had, h⟩) | h)
      · omega
      · rw [ha] at had; cases had; simp only at h; omega
      · exact qP.1 h
    refine ⟨?_, ?_⟩
    · exact ((RdStep.setCell W2 ⟨G, i, none⟩ (.int .i64 (p % v)) nG).trans (RdStep.setCell _ ⟨w.heap.size, 0, none⟩ (.int .i64 (p / v)) nP)).trans (RdStep.drew _ _)
    · unfold AtI
      rw [S.out]
      refine ⟨?_, ?_, ?_, ?_⟩
      · exact (qP.other (p := ⟨G, i, none⟩) _ hne).set 0 (.int .i64 (p / v))
      · have := ((qG.set i (.int .i64 (p % v))).other (p := ⟨w.heap.size, 0, none⟩) (.int .i64 (p / v)) (Ne.symm hne)).drew
        simpa [List.map_set] using this
      · exact ((qV.other (p := ⟨G, i, none⟩) _ (by simp)).other (p := ⟨w.heap.size, 0, none⟩) _ (by simp; omega))
      · exact ⟨((qB.1.setCell (p := ⟨G, i, none⟩) (by simp; omega) _).setCell (p := ⟨w.heap.size, 0, none⟩) (Nat.le_refl _) _).drew, qB.2⟩
  case done =>
    intro D O W' hD hO hdef hI
    unfold AtI atSt at hI
    have e := back_all zs (rightS_parts HN.out).2.2.1 place
    rw [hlz] at e
    rw [e] at hI
    obtain ⟨qP, qG, qV, qB⟩ := hI
    have cV : W'.cell? ⟨G + 1, 0, none⟩ = some (.slice (some ⟨G, 0, none⟩) len len) := qV.cell 0
    have fin : NewE w len (digs zs place) (.returned (.tuple #[.slice (some ⟨G, 0, none⟩) len len, .int .i64 0])) (W'.putObj D (.deferred none)) :=
      ⟨_, _, rfl, (qG.putObj D _ hO).row (by omega) (by rw [digs_length, hlz]) (by unfold maxLen; omega), below_putObj qB.1 D _ (by omega)⟩
    have F := Lib.hid fin
    have HD := Lib.hid hdef
    clear e fin qP qG qV qB hdef
    go_wp2_with fail
    exact leaves_mark HD.out ⟨_, results_tmp2 (t := 4) (u := 5) rfl _ _ _, F.out⟩
end Go.Proofs.Ytieajkpjkhdjeaa
