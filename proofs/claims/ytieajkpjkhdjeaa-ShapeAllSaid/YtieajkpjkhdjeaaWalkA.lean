/-
  The walks over all places of the statement ShapeAll: over none.
-/
import Derived.Test.YtieajkpjkhdjeaaAllD
import Derived.Test.YtieajkpjkhdjeaaNextW
import Derived.Test.YtieajkpjkhdjeaaAwake03
import Derived.Deep.RegionHeld3
namespace Go.Proofs.Ytieajkpjkhdjeaa
open Go.RowKit Go.Shelf
attribute [local go_sem] Oper.semAt_some
set_option linter.unusedVariables false
set_option linter.unusedSimpArgs false

/-- A slice of these integers whose block is not the iterator's. -/
def IntsO (O : BSet) (W : World) (A : Option Addr) (n : Nat) (zs : List Int) : Prop := IntsAt W A n zs ∧ ∀ ad, A = some ad → ¬ O ad.block
theorem IntsO.stable {O O' : BSet} {W W' : World} {A : Option Addr} {n : Nat} {zs : List Int} (h : IntsO O W A n zs) (hn : 0 < n) (hs : ItStep O W O' W') : IntsO O' W' A n zs := by
  obtain ⟨⟨h1, h2, h3, h4⟩, h5⟩ := h
  rcases h4 with h4 | ⟨b, off, rfl, hc⟩
  · omega
  · have nb : ¬ O b := h5 ⟨b, off, none⟩ rfl
    refine ⟨⟨h1, h2, h3, .inr ⟨b, off, rfl, fun j hj => hs.cell (hc j hj) nb⟩⟩, ?_⟩
    rintro ad had
    cases had
    exact not_own hs (World.block_lt_of_cell? W _ (hc 0 hn)) nb

theorem enumL_split {α : Type} : ∀ (pre : List (Nat × α)) (j : Nat) (L : List α) (k : Nat) (x : α) (rest : List (Nat × α)), enumL j L = pre ++ (k, x) :: rest → k = j + pre.length ∧ L[pre.length]? = some x := by
  intro pre
  induction pre with
  | nil =>
    intro j L k x rest h
    cases L with
    | nil => simp [enumL] at h
    | cons a L => simp only [enumL, List.nil_append, List.cons.injEq, Prod.mk.injEq] at h; simp [h.1.1, h.1.2]
  | cons q pre ih =>
    intro j L k x rest h
    cases L with
    | nil => simp [enumL] at h
    | cons a L =>
      simp only [enumL, List.cons_append, List.cons.injEq] at h
      obtain ⟨h1, h2⟩ := ih (j + 1) L k x rest h.2
      exact ⟨by simp; omega, by simpa using h2⟩
theorem enumL_length {α : Type} : ∀ (L : List α) (j : Nat), (enumL j L).length = L.length := by
  intro L
  induction L with
  | nil => intro j; rfl
  | cons a L ih => intro j; simp [enumL, ih]
theorem allL_split {zs : List Int} (hr : rightS zs = true) {pre rest : List (Nat × List Int)} {k : Nat} {st : List Int} (h : allL zs = pre ++ (k, st) :: rest) : k = pre.length ∧ st = digs zs (pre.length : Int) ∧ ((pre.length : Int) < prodI zs) := by
  unfold allL at h
  rw [if_pos hr] at h
  obtain ⟨h1, h2⟩ := enumL_split pre 0 _ k st rest h
  rw [idxN_digs zs (rightS_parts hr).2.2.1 zs.length (Nat.le_refl _), List.take_of_length_le (Nat.le_refl _), List.getElem?_map] at h2
  obtain ⟨q, hq, rfl⟩ := Option.map_eq_some_iff.1 h2
  obtain ⟨hlt, hq2⟩ := List.getElem?_eq_some_iff.1 hq
  rw [List.getElem_range] at hq2
  subst hq2
  rw [List.length_range] at hlt
  exact ⟨by omega, rfl, by omega⟩
theorem allL_length {zs : List Int} (hr : rightS zs = true) : ((allL zs).length : Int) = prodI zs := by
  unfold allL
  rw [if_pos hr, enumL_length, idxN_digs zs (rightS_parts hr).2.2.1 zs.length (Nat.le_refl _), List.take_of_length_le (Nat.le_refl _), List.length_map, List.length_range]
  have := prodI_pos (rightS_parts hr).2.2.1
  omega

set_option maxRecDepth 100000 in
set_option maxHeartbeats 4000000 in
theorem none_any (a : Option Addr) (len cap : Nat) (zs : List Int) (w : World) (h : IntsAt w a len zs) (hr : rightS zs = false) :
    Calls Try.prog 19 #[.slice a len cap] w fun e w' => e = .returned (.bool true) ∧ Below w.heap.size w w' := by
  have hx : allL zs = [] := by unfold allL; rw [if_neg (by rw [hr]; simp)]
  have hl := h.1
  obtain ⟨B, hB⟩ : ∃ B, w.heap.size = B := ⟨_, rfl⟩
  have HB := Lib.hid hB
  have H := Lib.hid h
  clear h hB
  refine (callsIn_wide (n := 1)).1 ?_
  refine callsIn_of_wp_marks Try.func19 rfl trivial ?_ rfl
  simp only [Try.ntmps19, List.size_toArray, List.length_cons, List.length_nil, Nat.reduceAdd, Nat.reduceSub, Array.replicate_succ, Array.replicate_zero, List.push_toArray, List.append_toArray, List.nil_append, List.cons_append]
  refine wpIn_wide.2 ?_
  go_wp2_with fail
  refine (all_any _ _ _ _).mono ?_
  rintro e w' ⟨rfl, rfl⟩
  obtain ⟨W, hW⟩ : ∃ W, (w.alloc (.cells #[.bool false] 4)).alloc (.cells #[.slice a len cap] 23) = W := ⟨_, rfl⟩
  have z : Below w.heap.size w W := by rw [← hW]; exact ((Below.refl _ _).alloc (Nat.le_refl _) _).alloc (by simp) _
  have s5 : W.heap.size = B + 2 := by rw [← hW, ← HB.out]; simp
  have pR : Has (fun _ => False) W B #[.bool false] 4 := by
    rw [← hW, ← HB.out]
    exact (Has.made (O := fun _ => False) w _ _ (fun h => h)).below ((Below.refl _ _).alloc (Nat.le_refl _) _)
  have pB : W.cell? ⟨B + 1, 0, none⟩ = some (.slice a len cap) := by rw [← hW, World.cell?_alloc_at _ _ _ _ (by simp [HB.out])]; rfl
  have hIW := H.out.kept z
  have hbase : Base w (fun _ => False) W := ⟨z, fun _ h => h.elim⟩
  have hal : ∀ ad, a = some ad → 0 < len → ad.block < W.heap.size := by
    intro ad had hp
    rcases hIW.2.2.2 with h4 | ⟨b, off, ha, hc⟩
    · omega
    · rw [ha] at had; cases had; exact World.block_lt_of_cell? W _ (hc 0 hp)
  simp only [World.size_alloc, HB.out, Nat.add_assoc, Nat.reduceAdd]
  rw [hW]
  clear hW hal
  have HX := Lib.hid hx
  clear hx
  go_wp2_with fail
  refine (wpIn_wide (n := 1)).1 ?_
  refine range_law (gf := 38) (lb := #[.pointer (some ⟨B + 1, 0, none⟩)]) rfl (enters_of Try.func38 (by kernel_rfl) rfl) (allS_wrong (fun _ => False) (B + 1) a len cap zs hr) (fun _ _ => rfl) (fun _ h => h.elim)
    (fun st y O W D l o o' h1 h2 h3 => IdxE.keep (st := st.2) D l o o' h1 h2 h3) (fun W' hb' => ⟨cell_later hb' pB, hIW.kept hb'⟩)
    (fun _ O W => Has O W B #[.bool false] 4 ∧ Base w O W) (fun _ _ _ _ => False) (fun _ O W O' W' h hs => ⟨h.1.stable hs, h.2.stable hs⟩) (fun _ _ _ _ _ _ h _ => h) ⟨pR, hbase⟩ ?round ?done ?stop
  case round =>
    intro l pre x y rest O Wa W2 hxs
    rw [HX.out] at hxs
    simp at hxs
  case stop =>
    intro D O c pre W' _ _ _ h
    exact h.elim
  case done =>
    rintro D O W' hD hO hdef ⟨qR, qB⟩
    have cR : W'.cell? ⟨B, 0, none⟩ = some (.bool false) := qR.cell 0
    have fR := qR.frozen 0
    have hDB : D ≠ B := fun e => qR.1 (e ▸ hO)
    have fin : ((W'.setCell ⟨B, 0, none⟩ (.bool true)).putObj D (.deferred none)).cell? ⟨B, 0, none⟩ = some (.bool true) ∧ Below w.heap.size w ((W'.setCell ⟨B, 0, none⟩ (.bool true)).putObj D (.deferred none)) := by
      have q2 : Has O (W'.setCell ⟨B, 0, none⟩ (.bool true)) B #[.bool true] 4 := qR.set 0 (.bool true)
      refine ⟨?_, below_putObj (qB.1.setCell (p := ⟨B, 0, none⟩) (by simp [HB.out]) _) D _ (by rw [HB.out]; omega)⟩
      rw [(q2.putObj D (.deferred none) hO).cell 0]; rfl
    have hdef2 : (W'.setCell ⟨B, 0, none⟩ (.bool true)).heap[D]? = some (.deferred (some [])) := (Below.heap_setCell W' ⟨B, 0, none⟩ _ D (by simpa using hDB)).trans hdef
    have F := Lib.hid fin
    have HD := Lib.hid hdef2
    clear fin hdef hdef2 qR qB hDB
    go_wp2_with fail
    refine leaves_mark HD.out ⟨.bool true, ?_, rfl, F.out.2⟩
    simp [results, Try.results19, go_sem, F.out.1]
end Go.Proofs.Ytieajkpjkhdjeaa
