/-
  The walks over all places of the statement ShapeAll: over the first places of a valid shape.
-/
import Derived.Test.YtieajkpjkhdjeaaWalkA
import Derived.Deep.RegionHeld3
namespace Go.Proofs.Ytieajkpjkhdjeaa
open Go.RowKit Go.Shelf
attribute [local go_sem] Oper.semAt_some
set_option linter.unusedVariables false
set_option linter.unusedSimpArgs false

/-- What walk keeps through all rounds: the shape, the bound, the result, the count. -/
def WkB (a : Option Addr) (len cap B stop : Nat) (w : World) (k : Nat) (O : BSet) (W : World) : Prop :=
  Has O W B #[.slice a len cap] 23 ∧ Has O W (B + 1) #[.int .i64 stop] 3 ∧ Has O W (B + 2) #[.bool false] 4 ∧ Has O W (B + 5) #[.int .i64 k] 3 ∧ Base w O W ∧ ∀ j, O j → j < W.heap.size
/-- Between two rounds. -/
def WkI (zs : List Int) (a : Option Addr) (len cap B stop : Nat) (w : World) (pre : List (Nat × List Int)) (O : BSet) (W : World) : Prop :=
  WkB a len cap B stop w pre.length O W ∧ (∃ A c, Has O W (B + 4) #[.slice A len c] 22 ∧ IntsO O W A len (digs zs pre.length)) ∧ pre.length < stop
/-- The loop was left. -/
def WkX (zs : List Int) (a : Option Addr) (len cap B stop : Nat) (w : World) (id : Nat) (c : Code) (_ : List (Nat × List Int)) (O : BSet) (W : World) : Prop :=
  c = .exit id ∧ WkB a len cap B stop w stop O W ∧ (stop : Int) ≤ prodI zs
theorem WkB.stable {a : Option Addr} {len cap B stop : Nat} {w : World} {k : Nat} {O O' : BSet} {W W' : World} (h : WkB a len cap B stop w k O W) (hs : ItStep O W O' W') : WkB a len cap B stop w k O' W' :=
  ⟨h.1.stable hs, h.2.1.stable hs, h.2.2.1.stable hs, h.2.2.2.1.stable hs, h.2.2.2.2.1.stable hs, fun j hj => (hs.top j hj).elim (fun h1 => Nat.lt_of_lt_of_le (h.2.2.2.2.2 j h1) hs.size) id⟩
theorem WkI.stable (zs : List Int) (a : Option Addr) (len cap B stop : Nat) (hl : 0 < len) (w : World) (pre : List (Nat × List Int)) : Stable (WkI zs a len cap B stop w pre) := by
  rintro O W O' W' ⟨h1, ⟨A, c, h2, h3⟩, h4⟩ hs
  exact ⟨h1.stable hs, ⟨A, c, h2.stable hs, h3.stable hl hs⟩, h4⟩

theorem WkX.stable (zs : List Int) (a : Option Addr) (len cap B stop : Nat) (w : World) (id : Nat) (c : Code) (p : List (Nat × List Int)) : Stable (WkX zs a len cap B stop w id c p) :=
  fun O W O' W' h hs => ⟨h.1, h.2.1.stable hs, h.2.2⟩

theorem walk_fits {s : List Int} (h : allR 1 1024 s = true) (p : Int) : Fits (digs s p) := by
  induction s with
  | nil => intro n hn; cases hn
  | cons x s ih =>
    obtain ⟨⟨x1, x2⟩, hs⟩ := allR_cons h
    intro n hn
    simp only [digs, List.mem_cons] at hn
    rcases hn with rfl | hn
    · have := Int.emod_nonneg (p / prodI s) (show x ≠ 0 by omega)
      have := Int.emod_lt_of_pos (p / prodI s) (show 0 < x by omega)
      omega
    · exact ih hs n hn

set_option maxRecDepth 100000 in
set_option maxHeartbeats 8000000 in
theorem walk_any (a : Option Addr) (len cap : Nat) (zs : List Int) (stop : Nat) (w : World) (h : IntsAt w a len zs) (hr : rightS zs = true) (hs1 : 1 ≤ stop) (hs2 : stop ≤ 500) :
    Calls Try.prog 20 #[.slice a len cap, .int .i64 stop] w fun e w' => e = .returned (.bool true) ∧ Below w.heap.size w w' := by
  have hl := h.1
  have hl1 : 0 < len := by have := (rightS_parts hr).1; omega
  have hl4 : len ≤ 4 := by have := (rightS_parts hr).2.1; omega
  obtain ⟨B, hB⟩ : ∃ B, w.heap.size = B := ⟨_, rfl⟩
  have HB := Lib.hid hB
  have H := Lib.hid h
  have HR := Lib.hid hr
  have hmk := int_made 22 Try.underlying22 len (by omega)
  clear h hB hr
  refine (callsIn_wide (n := 1)).1 ?_
  refine callsIn_of_wp_marks Try.func20 rfl trivial ?_ rfl
  simp only [Try.ntmps20, List.size_toArray, List.length_cons, List.length_nil, Nat.reduceAdd, Nat.reduceSub, Array.replicate_succ, Array.replicate_zero, List.push_toArray, List.append_toArray, List.nil_append, List.cons_append]
  refine wpIn_wide.2 ?_
  go_wp2_with fail
  refine (all_any _ _ _ _).mono ?_
  rintro e w' ⟨rfl, rfl⟩
  obtain ⟨W, hW⟩ : ∃ W, ((((((w.alloc (.cells #[.slice a len cap] 23)).alloc (.cells #[.int .i64 stop] 3)).alloc (.cells #[.bool false] 4)).alloc (.cells (madeCells #[.int .i64 0] len) 3)).alloc (.cells #[.slice (some ⟨w.heap.size + 1 + 1 + 1, 0, none⟩) len len] 22)).alloc (.cells #[.int .i64 0] 3)).alloc (.cells #[.slice a len cap] 23) = W := ⟨_, rfl⟩
  have bel : ∀ (V : World) (o : Obj), Below V.heap.size V (V.alloc o) := fun V o => (Below.refl _ _).alloc (Nat.le_refl _) _
  have z1 := bel w (.cells #[.slice a len cap] 23)
  generalize hV1 : w.alloc (.cells #[.slice a len cap] 23) = V1 at z1 hW
  have s1 : V1.heap.size = B + 1 := by rw [← hV1, ← HB.out]; simp
  have p1 : Has (fun _ => False) V1 B #[.slice a len cap] 23 := by rw [← hV1, ← HB.out]; exact Has.made w _ _ (fun h => h)
  have z2 := bel V1 (.cells #[.int .i64 stop] 3)
  generalize hV2 : V1.alloc (.cells #[.int .i64 stop] 3) = V2 at z2 hW
  have s2 : V2.heap.size = B + 2 := by rw [← hV2]; simp [s1]
  have p2 : Has (fun _ => False) V2 (B + 1) #[.int .i64 stop] 3 := by rw [← hV2, ← s1]; exact Has.made V1 _ _ (fun h => h)
  have z3 := bel V2 (.cells #[.bool false] 4)
  generalize hV3 : V2.alloc (.cells #[.bool false] 4) = V3 at z3 hW
  have s3 : V3.heap.size = B + 3 := by rw [← hV3]; simp [s2]
  have p3 : Has (fun _ => False) V3 (B + 2) #[.bool false] 4 := by rw [← hV3, ← s2]; exact Has.made V2 _ _ (fun h => h)
  have z4 := bel V3 (.cells (madeCells #[.int .i64 0] len) 3)
  generalize hV4 : V3.alloc (.cells (madeCells #[.int .i64 0] len) 3) = V4 at z4 hW
  have s4 : V4.heap.size = B + 4 := by rw [← hV4]; simp [s3]
  have p4 : Has (fun _ => False) V4 (B + 3) ((List.replicate len (0 : Int)).map (Value.int .i64)).toArray 3 := by rw [← hV4, ← s3, ← made_zeros]; exact Has.made V3 _ _ (fun h => h)
  have z5 := bel V4 (.cells #[.slice (some ⟨w.heap.size + 1 + 1 + 1, 0, none⟩) len len] 22)
  generalize hV5 : V4.alloc (.cells #[.slice (some ⟨w.heap.size + 1 + 1 + 1, 0, none⟩) len len] 22) = V5 at z5 hW
  have s5 : V5.heap.size = B + 5 := by rw [← hV5]; simp [s4]
  have p5 : Has (fun _ => False) V5 (B + 4) #[.slice (some ⟨B + 3, 0, none⟩) len len] 22 := by
    rw [← hV5, ← s4, show w.heap.size + 1 + 1 + 1 = B + 3 by rw [HB.out]]; exact Has.made V4 _ _ (fun h => h)
  have z6 := bel V5 (.cells #[.int .i64 0] 3)
  generalize hV6 : V5.alloc (.cells #[.int .i64 0] 3) = V6 at z6 hW
  have s6 : V6.heap.size = B + 6 := by rw [← hV6]; simp [s5]
  have p6 : Has (fun _ => False) V6 (B + 5) #[.int .i64 0] 3 := by rw [← hV6, ← s5]; exact Has.made V5 _ _ (fun h => h)
  have z7 := bel V6 (.cells #[.slice a len cap] 23)
  rw [hW] at z7
  have s7 : W.heap.size = B + 7 := by rw [← hW]; simp [s6]
  have p7 : W.cell? ⟨B + 6, 0, none⟩ = some (.slice a len cap) := by rw [← hW, World.cell?_alloc_at _ _ _ _ (by simp [s6])]; rfl
  have q6 := p6.below z7
  have q5 := (p5.below z6).below z7
  have q4 := ((p4.below z5).below z6).below z7
  have q3 := (((p3.below z4).below z5).below z6).below z7
  have q2 := ((((p2.below z3).below z4).below z5).below z6).below z7
  have q1 := (((((p1.below z2).below z3).below z4).below z5).below z6).below z7
  have z : Below w.heap.size w W := by
    refine z1.trans ((z2.mono ?_).trans ((z3.mono ?_).trans ((z4.mono ?_).trans ((z5.mono ?_).trans ((z6.mono ?_).trans (z7.mono ?_)))))) <;> (have := HB.out; omega)
  have hI := H.out.kept z
  have hd0 : digs zs 0 = List.replicate len 0 := by rw [zeros_of zs (rightS_parts HR.out).2.2.1 0 (by simp), hI.1]
  have hrow : IntsAt W (some ⟨B + 3, 0, none⟩) len (digs zs 0) := by
    rw [hd0]
    exact row_ints (q4.row (B := 0) (Nat.zero_le _) (by simp) (by unfold maxLen; omega)) (by omega) (fun n hn => by rw [List.eq_of_mem_replicate hn]; omega)
  have hbase : Base w (fun _ => False) W := ⟨z, fun _ h => h.elim⟩
  have hal : ∀ ad, a = some ad → ad.block < B := by
    intro ad had
    rcases H.out.2.2.2 with h4 | ⟨b, off, ha, hc⟩
    · omega
    · rw [ha] at had; cases had; rw [← HB.out]; exact World.block_lt_of_cell? w _ (hc 0 hl1)
  have hlo : ¬ ((fun _ => False) : BSet) (B + 3) := fun h => h
  have r0 : WkI zs a len cap B stop w [] (fun _ => False) W := ⟨⟨q1, q2, q3, q6, hbase, fun _ h => h.elim⟩, ⟨_, _, q5, hrow, fun _ _ h => h⟩, by simp; omega⟩
  rw [hW]
  simp only [s6, HB.out, Nat.add_assoc, Nat.reduceAdd]
  clear hW hV1 hV2 hV3 hV4 hV5 hV6 z1 z2 z3 z4 z5 z6 z7 s1 s2 s3 s4 s5 s6 p1 p2 p3 p4 p5 p6 q1 q2 q3 q4 q5 q6 z hd0 hrow hbase hlo hmk bel
  go_wp2_with fail
  refine (wpIn_wide (n := 1)).1 ?_
  refine range_law (gf := 38) (lb := #[.pointer (some ⟨B + 6, 0, none⟩)]) rfl (enters_of Try.func38 (by kernel_rfl) rfl) (all_iter (B + 6) a len cap zs hl) (fun _ _ => rfl) ?hR
    (fun st y O W D l o o' h1 h2 h3 => IdxE.keep (st := st.2) D l o o' h1 h2 h3) (fun W' hb' => ⟨cell_later hb' p7, hI.kept hb'⟩)
    (WkI zs a len cap B stop w) (WkX zs a len cap B stop w 0) (WkI.stable zs a len cap B stop hl1 w) (WkX.stable zs a len cap B stop w 0) r0 ?round ?done ?stop
  case hR =>
    rintro k (rfl | ⟨ad, had, rfl⟩)
    · omega
    · have := hal ad had; omega
  case stop =>
    rintro D O c pre W' hD hO hdef ⟨rfl, hx, hp⟩
    obtain ⟨N, hN⟩ : ∃ N : Nat, prodI zs = N := ⟨(prodI zs).toNat, by omega⟩
    rw [hN] at hp
    have hmin : min (stop : Int) (N : Int) = stop := by omega
    have hN9 : (N : Int) < 9223372036854775808 := by have := (rightS_parts HR.out).2.2.2; omega
    obtain ⟨qS, qT, qR, qK, qB, -⟩ := hx
    have c0 : W'.cell? ⟨B, 0, none⟩ = some (.slice a len cap) := qS.cell 0
    have c1 : W'.cell? ⟨B + 1, 0, none⟩ = some (.int .i64 stop) := qT.cell 0
    have c2 : W'.cell? ⟨B + 2, 0, none⟩ = some (.bool false) := qR.cell 0
    have c5 : W'.cell? ⟨B + 5, 0, none⟩ = some (.int .i64 stop) := qK.cell 0
    have fR := qR.frozen 0
    have hDB : D ≠ B + 2 := fun e => qR.1 (e ▸ hO)
    have fin : (((W'.setCell ⟨B + 2, 0, none⟩ (.bool true)).drew.putObj D (.deferred none)).cell? ⟨B + 2, 0, none⟩ = some (.bool true) ∧ Below w.heap.size w ((W'.setCell ⟨B + 2, 0, none⟩ (.bool true)).drew.putObj D (.deferred none))) := by
      have q2 : Has O ((W'.setCell ⟨B + 2, 0, none⟩ (.bool true)).drew) (B + 2) #[.bool true] 4 := (qR.set 0 (.bool true)).drew
      refine ⟨?_, below_putObj ((qB.1.setCell (p := ⟨B + 2, 0, none⟩) (by simp [HB.out]) _).drew) D _ (by rw [HB.out]; omega)⟩
      rw [(q2.putObj D (.deferred none) hO).cell 0]; rfl
    have hdef2 : (W'.setCell ⟨B + 2, 0, none⟩ (.bool true)).drew.heap[D]? = some (.deferred (some [])) := (Below.heap_setCell W' ⟨B + 2, 0, none⟩ _ D (by simpa using hDB)).trans hdef
    have SZ := refsize_any a len cap zs W'.drew (H.out.kept qB.1.drew) HR.out
    rw [hN] at SZ
    have SZ' := Lib.hid SZ
    have F := Lib.hid fin
    have HD := Lib.hid hdef2
    clear fin hdef hdef2 SZ qS qT qR qK qB hDB r0 p7 hI
    refine wpIn_wide.2 ?_
    go_wp2_with fail
    have u3 : W'.drew.cell? ⟨B + 5, 0, none⟩ = some (.int .i64 stop) ∧ W'.drew.cell? ⟨B + 1, 0, none⟩ = some (.int .i64 stop) ∧ W'.drew.cell? ⟨B, 0, none⟩ = some (.slice a len cap) ∧ W'.drew.cell? ⟨B + 2, 0, none⟩ = some (.bool false) ∧ W'.drew.frozen? ⟨B + 2, 0, none⟩ = false := ⟨c5, c1, c0, c2, fR⟩
    go_region_held3 (fun w' => w'.cell? ⟨B + 5, 0, none⟩ = some (.int .i64 stop) ∧ w'.cell? ⟨B + 1, 0, none⟩ = some (.int .i64 stop) ∧ w'.cell? ⟨B, 0, none⟩ = some (.slice a len cap))
      (first | exact ⟨u3.1, u3.2.1, u3.2.2.1⟩ | go_keep)
      ((go_at_call 15; refine SZ'.out.mono ?_; rintro e w3 ⟨rfl, rfl⟩))
    go_wp2_with fail
    refine leaves_mark HD.out ⟨.bool true, ?_, rfl, F.out.2⟩
    simp [results, Try.results20, go_sem, F.out.1]
  case done =>
    rintro D O W' hD hO hdef ⟨hx, -, hlt⟩
    obtain ⟨N, hN⟩ : ∃ N : Nat, prodI zs = N := ⟨(prodI zs).toNat, by have := allL_length HR.out; omega⟩
    rw [show (allL zs).length = N by have := allL_length HR.out; omega] at hx hlt
    have hmin : min (stop : Int) (N : Int) = N := by omega
    have hN9 : (N : Int) < 9223372036854775808 := by have := (rightS_parts HR.out).2.2.2; omega
    obtain ⟨qS, qT, qR, qK, qB, -⟩ := hx
    have c0 : W'.cell? ⟨B, 0, none⟩ = some (.slice a len cap) := qS.cell 0
    have c1 : W'.cell? ⟨B + 1, 0, none⟩ = some (.int .i64 stop) := qT.cell 0
    have c2 : W'.cell? ⟨B + 2, 0, none⟩ = some (.bool false) := qR.cell 0
    have c5 : W'.cell? ⟨B + 5, 0, none⟩ = some (.int .i64 N) := qK.cell 0
    have fR := qR.frozen 0
    have hDB : D ≠ B + 2 := fun e => qR.1 (e ▸ hO)
    have fin : (((W'.setCell ⟨B + 2, 0, none⟩ (.bool true)).drew.putObj D (.deferred none)).cell? ⟨B + 2, 0, none⟩ = some (.bool true) ∧ Below w.heap.size w ((W'.setCell ⟨B + 2, 0, none⟩ (.bool true)).drew.putObj D (.deferred none))) := by
      have q2 : Has O ((W'.setCell ⟨B + 2, 0, none⟩ (.bool true)).drew) (B + 2) #[.bool true] 4 := (qR.set 0 (.bool true)).drew
      refine ⟨?_, below_putObj ((qB.1.setCell (p := ⟨B + 2, 0, none⟩) (by simp [HB.out]) _).drew) D _ (by rw [HB.out]; omega)⟩
      rw [(q2.putObj D (.deferred none) hO).cell 0]; rfl
    have hdef2 : (W'.setCell ⟨B + 2, 0, none⟩ (.bool true)).drew.heap[D]? = some (.deferred (some [])) := (Below.heap_setCell W' ⟨B + 2, 0, none⟩ _ D (by simpa using hDB)).trans hdef
    have SZ := refsize_any a len cap zs W'.drew (H.out.kept qB.1.drew) HR.out
    rw [hN] at SZ
    have SZ' := Lib.hid SZ
    have F := Lib.hid fin
    have HD := Lib.hid hdef2
    clear fin hdef hdef2 SZ qS qT qR qK qB hDB r0 p7 hI
    go_wp2_with fail
    have u3 : W'.drew.cell? ⟨B + 5, 0, none⟩ = some (.int .i64 N) ∧ W'.drew.cell? ⟨B + 1, 0, none⟩ = some (.int .i64 stop) ∧ W'.drew.cell? ⟨B, 0, none⟩ = some (.slice a len cap) ∧ W'.drew.cell? ⟨B + 2, 0, none⟩ = some (.bool false) ∧ W'.drew.frozen? ⟨B + 2, 0, none⟩ = false := ⟨c5, c1, c0, c2, fR⟩
    go_region_held3 (fun w' => w'.cell? ⟨B + 5, 0, none⟩ = some (.int .i64 N) ∧ w'.cell? ⟨B + 1, 0, none⟩ = some (.int .i64 stop) ∧ w'.cell? ⟨B, 0, none⟩ = some (.slice a len cap))
      (first | exact ⟨u3.1, u3.2.1, u3.2.2.1⟩ | go_keep)
      ((go_at_call 15; refine SZ'.out.mono ?_; rintro e w3 ⟨rfl, rfl⟩))
    go_wp2_with fail
    refine leaves_mark HD.out ⟨.bool true, ?_, rfl, F.out.2⟩
    simp [results, Try.results20, go_sem, F.out.1]
  case round =>
    rintro l pre ⟨k, st⟩ ⟨y1, y2⟩ rest O Wa W2 hxs ⟨hx, ⟨A, c, hA, hAI, hAO⟩, hlt⟩ hE
    obtain ⟨rfl, rfl, hpr⟩ := allL_split HR.out hxs
    obtain ⟨k, hk⟩ : ∃ k, pre.length = k := ⟨_, rfl⟩
    rw [hk] at hlt hpr hx hAI
    have hst : (digs zs (k : Int)).length = len := by rw [digs_length, hl]
    have E1 : IntsAt W2 y1 len (digs zs (k : Int)) := by have := hE.1; rw [hk] at this; rw [hst] at this; exact this
    simp only [hk]
    rw [show allV (k, digs zs (k : Int)) (y1, y2) = #[.int .i64 k, .slice y1 len y2] by simp only [allV]; rw [hst]]
    have c0 : W2.cell? ⟨B, 0, none⟩ = some (.slice a len cap) := hx.1.cell 0
    have c1 : W2.cell? ⟨B + 1, 0, none⟩ = some (.int .i64 stop) := hx.2.1.cell 0
    have c4 : W2.cell? ⟨B + 4, 0, none⟩ = some (.slice A len c) := hA.cell 0
    have c5 : W2.cell? ⟨B + 5, 0, none⟩ = some (.int .i64 k) := hx.2.2.2.1.cell 0
    have SM := same_any y1 len y2 _ A len c _ W2 E1 hAI
    rw [sameL_self] at SM
    have SM' := Lib.hid SM
    have IA := Lib.hid (show IntsAt W2 a len zs from H.out.kept hx.2.2.2.2.1.1)
    have HX := Lib.hid hx
    have HA := Lib.hid hA
    have HAI := Lib.hid (And.intro hAI hAO)
    clear SM hx hA hAI hAO hxs hE r0 p7 hI
    have hk1 : (k : Int) < 500 := by omega
    gi_wp2
    refine ⟨trivial, ?_⟩
    gi_wp2_with fail
    refine ⟨trivial, rfl, (CallsIn.inRound l (callsIn_wide.2 SM'.out)).mono ?_⟩
    rintro e w3 ⟨rfl, nd, hnd⟩
    have b3 : Below W2.heap.size W2 w3 := by rw [hnd]; exact below_drewN' (Below.refl _ _) nd
    clear hnd SM' c0 c1 c4 c5
    have NX := next_any a len cap zs A c k w3 (IA.out.kept b3) (HAI.out.1.kept b3) HR.out
    have X3 := Lib.hid (show WkB a len cap B stop w k O w3 from HX.out.stable (ItStep.of_below b3))
    have A3 := Lib.hid (HA.out.stable (ItStep.of_below b3))
    have c0 : w3.cell? ⟨B, 0, none⟩ = some (.slice a len cap) := X3.out.1.cell 0
    have c4 : w3.cell? ⟨B + 4, 0, none⟩ = some (.slice A len c) := A3.out.cell 0
    have NX' := Lib.hid NX
    have B3 := Lib.hid b3
    clear NX b3
    gi_wp2_with fail
    refine ⟨trivial, rfl, (CallsIn.inRound l (callsIn_wide.2 NX'.out)).mono ?_⟩
    rintro e w4 ⟨A', c', rfl, ho, b4⟩
    have X4 := Lib.hid (show WkB a len cap B stop w k O w4 from X3.out.stable (ItStep.of_below b4))
    have A4 := Lib.hid (A3.out.stable (ItStep.of_below b4))
    have B4 := Lib.hid b4
    have HO := Lib.hid ho
    clear ho b4 c0 c4 NX'
    have c1 : w4.cell? ⟨B + 1, 0, none⟩ = some (.int .i64 stop) := X4.out.2.1.cell 0
    have c5 : w4.cell? ⟨B + 5, 0, none⟩ = some (.int .i64 k) := X4.out.2.2.2.1.cell 0
    have f4 := A4.out.frozen 0
    have f5 := X4.out.2.2.2.1.frozen 0
    have c4 : w4.cell? ⟨B + 4, 0, none⟩ = some (.slice A len c) := A4.out.cell 0
    have e1 : ((k + 1 : Nat) : Int) = (k : Int) + 1 := by omega
    have fin : RdStep (fun q => BackR (B + 6) a q ∨ O q) W2 ((w4.setCell ⟨B + 4, 0, none⟩ (.slice A' len c')).setCell ⟨B + 5, 0, none⟩ (.int .i64 ((k : Int) + 1))) ∧
        WkB a len cap B stop w (k + 1) O ((w4.setCell ⟨B + 4, 0, none⟩ (.slice A' len c')).setCell ⟨B + 5, 0, none⟩ (.int .i64 ((k : Int) + 1))) ∧
        (∃ A c, Has O ((w4.setCell ⟨B + 4, 0, none⟩ (.slice A' len c')).setCell ⟨B + 5, 0, none⟩ (.int .i64 ((k : Int) + 1))) (B + 4) #[.slice A len c] 22 ∧
          IntsO O ((w4.setCell ⟨B + 4, 0, none⟩ (.slice A' len c')).setCell ⟨B + 5, 0, none⟩ (.int .i64 ((k : Int) + 1))) A len (digs zs ((k + 1 : Nat) : Int))) := by
      obtain ⟨qS, qT, qR, qK, qB, qO⟩ := X4.out
      obtain ⟨g, c6, hv⟩ := Joins.ownsRow_form HO.out (by omega)
      simp only [Value.slice.injEq] at hv
      obtain ⟨rfl, -, rfl⟩ := hv
      have hg := (HO.out.lt g rfl).1
      have hgK : B + 5 < g := Nat.lt_of_lt_of_le X3.out.2.2.2.1.lt hg
      have hgO : ¬ O g := fun h => by have := X3.out.2.2.2.2.2 g h; omega
      have nA : ¬ (BackR (B + 6) a (B + 4) ∨ O (B + 4)) := by
        rintro ((h | ⟨ad, had, h⟩) | h)
        · omega
        · have := hal ad had; omega
        · exact A4.out.1 h
      have nK : ¬ (BackR (B + 6) a (B + 5) ∨ O (B + 5)) := by
        rintro ((h | ⟨ad, had, h⟩) | h)
        · omega
        · have := hal ad had; omega
        · exact qK.1 h
      refine ⟨?_, ⟨?_, ?_, ?_, ?_, ?_, ?_⟩, some ⟨g, 0, none⟩, c', ?_, ?_⟩
      · exact (((RdStep.of_below B3.out).trans (RdStep.of_below B4.out)).trans (RdStep.setCell w4 ⟨B + 4, 0, none⟩ _ nA)).trans (RdStep.setCell _ ⟨B + 5, 0, none⟩ _ nK)
      · exact (qS.other (p := ⟨B + 4, 0, none⟩) _ (by simp)).other (p := ⟨B + 5, 0, none⟩) _ (by simp)
      · exact (qT.other (p := ⟨B + 4, 0, none⟩) _ (by simp)).other (p := ⟨B + 5, 0, none⟩) _ (by simp)
      · exact (qR.other (p := ⟨B + 4, 0, none⟩) _ (by simp)).other (p := ⟨B + 5, 0, none⟩) _ (by simp)
      · rw [e1]; exact (qK.other (p := ⟨B + 4, 0, none⟩) _ (by simp)).set 0 (.int .i64 ((k : Int) + 1))
      · exact ⟨(qB.1.setCell (p := ⟨B + 4, 0, none⟩) (by rw [HB.out]; simp) _).setCell (p := ⟨B + 5, 0, none⟩) (by rw [HB.out]; simp) _, qB.2⟩
      · intro j hj
        exact Nat.lt_of_lt_of_le (qO j hj) (Nat.le_trans (RdStep.setCell (M := fun _ => False) w4 ⟨B + 4, 0, none⟩ _ (fun h => h)).size (RdStep.setCell (M := fun _ => False) _ ⟨B + 5, 0, none⟩ _ (fun h => h)).size)
      · exact (A4.out.set 0 _).other (p := ⟨B + 5, 0, none⟩) _ (by simp)
      · have i4 : IntsO (fun j => j = B + 4 ∨ j = B + 5) w4 (some ⟨g, 0, none⟩) len (digs zs ((k + 1 : Nat) : Int)) := by
          refine ⟨?_, ?_⟩
          · rw [e1]; exact row_ints HO.out (by omega) (walk_fits (rightS_parts HR.out).2.2.1 _)
          · intro ad had; cases had; simp only; omega
        refine ⟨((i4.stable hl1 (ItStep.setCell w4 ⟨B + 4, 0, none⟩ (.slice (some ⟨g, 0, none⟩) len c') (.inl rfl))).stable hl1 (ItStep.setCell _ ⟨B + 5, 0, none⟩ (.int .i64 ((k : Int) + 1)) (.inr rfl))).1, ?_⟩
        intro ad had; cases had; exact hgO
    have F := Lib.hid fin
    clear fin e1 HO X3 A3 B3 B4 HA HAI HX IA X4 A4
    by_cases hks : k + 1 = stop
    · have hd : decide ((k : Int) + 1 = (stop : Int)) = true := by simp; omega
      have hks' : (k : Int) + 1 = (stop : Int) := by omega
      have G := Lib.hid (show _ ∧ _ ∧ _ from F.out)
      have hG := G.out
      rw [hks', hks] at hG
      have G' := Lib.hid hG
      have F' := Lib.hid (show (stop : Int) ≤ prodI zs by omega)
      clear G hG F hks
      gi_wp2_with fail
      exact ⟨G'.out.1, rfl, G'.out.2.1, F'.out⟩
    · have hks' : ¬ (k : Int) + 1 = (stop : Int) := by omega
      gi_wp2_with fail
      refine ⟨F.out.1, ?_, ?_, ?_⟩
      · rw [List.length_append, hk]; exact F.out.2.1
      · rw [List.length_append, hk]; exact F.out.2.2
      · rw [List.length_append, hk]; simp; omega
end Go.Proofs.Ytieajkpjkhdjeaa
