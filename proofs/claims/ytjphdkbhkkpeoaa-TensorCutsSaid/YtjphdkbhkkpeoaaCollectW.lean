/-
  slices.AppendSeq and slices.Collect over the pieces of a slice; the pieces of a tensor's cells.
-/
import Derived.Test.YtjphdkbhkkpeoaaChunkW
import Derived.Test.YtjphdkbhkkpeoaaAppendNew
import Derived.RangeFuncBox
namespace Go.Proofs.Ytjphdkbhkkpeoaa
open Go.RowKit Go.Shelf
attribute [local go_sem] Oper.semAt_some
set_option linter.unusedVariables false
set_option linter.unusedSimpArgs false

theorem sInfo : (Try.prog.info? 24).map (fun i => (i.zero, i.size, i.bytes)) = some (some (.slice none 0 0), 1, 24) := by kernel_rfl

theorem row_it {B : Nat} {e : TypeId} {v : Value} {n : Nat} {xs : List Value} {O O' : BSet} {W W' : World} (h : W.ownsRow B e 1 v n xs) (hO : ∀ q, v.ownBlock = some q → ¬ O q) (hs : ItStep O W O' W') :
    W'.ownsRow B e 1 v n xs ∧ ∀ q, v.ownBlock = some q → ¬ O' q := by
  have hlt := h.lt
  refine ⟨?_, fun q hq => not_own hs (hlt q hq).2 (hO q hq)⟩
  rcases h.2 with h2 | ⟨g, cap, cur, hv, hbg, hg, rest⟩
  · exact ⟨h.1, .inl h2⟩
  · have hq : v.ownBlock = some g := by rw [hv]; rfl
    exact ⟨h.1, .inr ⟨g, cap, cur, hv, hbg, (hs.block g (hlt g hq).2 (hO g hq)).trans hg, rest⟩⟩

/-- Between two rounds: the box holds a new row of the pieces so far. -/
def ColI (w : World) (b off n : Nat) (pre : List Nat) (O : BSet) (W : World) : Prop :=
  ∃ v, Has O W w.heap.size #[v] 72 ∧ W.ownsRow w.heap.size 24 1 v pre.length (pre.map (pieceV b off n)) ∧ (∀ q, v.ownBlock = some q → ¬ O q) ∧ Base w O W ∧ (∀ k, O k → k < W.heap.size)
theorem ColI.stable (w : World) (b off n : Nat) (pre : List Nat) : Stable (ColI w b off n pre) := by
  rintro O W O' W' ⟨v, h1, h2, h3, h4, h5⟩ hs
  obtain ⟨r1, r2⟩ := row_it h2 h3 hs
  exact ⟨v, h1.stable hs, r1, r2, h4.stable hs, fun k hk => (hs.top k hk).elim (fun h => Nat.lt_of_lt_of_le (h5 k h) hs.size) id⟩

theorem upL_mem : ∀ (r j x : Nat), x ∈ upL j r → j ≤ x ∧ x < j + r := by
  intro r
  induction r with
  | zero => intro j x h; simp [upL] at h
  | succ r ih =>
    intro j x h
    simp only [upL, List.mem_cons] at h
    rcases h with rfl | h
    · omega
    · have := ih _ _ h; omega
theorem upL_length : ∀ (r j : Nat), (upL j r).length = r := by
  intro r
  induction r with
  | zero => intro j; rfl
  | succ r ih => intro j; simp [upL, ih]

set_option maxRecDepth 100000 in
set_option maxHeartbeats 4000000 in
theorem appendseq_any (Bs Bn b off cap n M L : Nat) (hn : 1 ≤ n) (hL : L = M * n) (hc1 : L ≤ cap) (hc2 : cap ≤ 9223372036854775807) (hL6 : L ≤ 1000000) (hM : M ≤ 2000) (w : World) (hC : ChunkC Bs Bn b off L cap n w) :
    Calls Try.prog 69 #[.slice none 0 0, .func (.func 70) #[] #[.pointer (some ⟨Bs, 0, none⟩), .pointer (some ⟨Bn, 0, none⟩)]] w
      fun e w' => ∃ v, e = .returned v ∧ w'.ownsRow w.heap.size 24 1 v M ((upL 0 M).map (pieceV b off n)) ∧ Below w.heap.size w w' := by
  obtain ⟨i0, hi, hz0, hz1, hz2⟩ := info_parts sInfo
  have hIT := chunk_iter Bs Bn b off cap n M L hn hL hc1 hc2 hL6
  have hBs : Bs < w.heap.size := World.block_lt_of_cell? w _ hC.1
  have hBn : Bn < w.heap.size := World.block_lt_of_cell? w _ hC.2
  have z : Below w.heap.size w (w.alloc (.cells #[.slice none 0 0] 72)) := (Below.refl _ _).alloc (Nat.le_refl _) _
  obtain ⟨W, hW⟩ : ∃ W, w.alloc (.cells #[.slice none 0 0] 72) = W := ⟨_, rfl⟩
  have pB : Has (fun _ => False) W w.heap.size #[.slice none 0 0] 72 := by rw [← hW]; exact Has.made w _ _ (fun h => h)
  rw [hW] at z
  have hCW : ChunkC Bs Bn b off L cap n W := ⟨cell_later z hC.1, cell_later z hC.2⟩
  have hI0 : ColI w b off n [] (fun _ => False) W := ⟨_, pB, World.ownsRow_nil _ _ _ _, (fun _ h => by cases h), ⟨z, fun _ h => h.elim⟩, fun _ h => h.elim⟩
  have hsz : W.heap.size = w.heap.size + 1 := by rw [← hW]; simp
  clear pB hL
  refine (callsIn_wide (n := 1)).1 ?_
  refine callsIn_of_wp_marks Try.func69 rfl trivial ?_ rfl
  simp only [Try.ntmps69, List.size_toArray, List.length_cons, List.length_nil, Nat.reduceAdd, Nat.reduceSub, Array.replicate_succ, Array.replicate_zero, List.push_toArray, List.append_toArray, List.nil_append, List.cons_append]
  refine wpIn_wide.2 ?_
  go_wp2_with fail
  clear hW
  refine (wpIn_wide (n := 1)).1 ?_
  refine range_law (gf := 70) (lb := #[.pointer (some ⟨Bs, 0, none⟩), .pointer (some ⟨Bn, 0, none⟩)]) rfl (enters_of Try.func70 (by kernel_rfl) rfl) hIT (fun _ _ => rfl) ?hR
    (fun _ _ _ _ _ _ _ _ _ _ _ => trivial) (fun W' hb' => ⟨cell_later hb' hCW.1, cell_later hb' hCW.2⟩)
    (ColI w b off n) (fun _ _ _ _ => False) (ColI.stable w b off n) (fun _ _ _ _ _ _ h _ => h) hI0 ?round ?done ?stop
  case hR =>
    rintro k (rfl | rfl) <;> omega
  case stop =>
    intro D O c pre W' _ _ _ h
    exact h.elim
  case done =>
    rintro D O W' hD hO hdef ⟨v, hh, hr, hno, hB, -⟩
    have cB : W'.cell? ⟨w.heap.size, 0, none⟩ = some v := hh.cell 0
    rw [upL_length] at hr
    have fin : ∃ v', Ending.returned v = .returned v' ∧ (W'.putObj D (.deferred none)).ownsRow w.heap.size 24 1 v' M ((upL 0 M).map (pieceV b off n)) ∧ Below w.heap.size w (W'.putObj D (.deferred none)) :=
      ⟨v, rfl, ownsRow_putObj hr _ hdef rfl, below_putObj hB.1 D _ (by omega)⟩
    have F := Lib.hid fin
    have HD := Lib.hid hdef
    clear fin hdef hh hr hno hB
    go_wp2_with fail
    exact leaves_mark HD.out ⟨_, results_tmp (t := 4) rfl _ _ _, F.out⟩
  case round =>
    rintro l pre x y rest O Wa W2 hxs ⟨v, hh, hr, hno, hB, htop⟩ _
    have cB : W2.cell? ⟨w.heap.size, 0, none⟩ = some v := hh.cell 0
    have fB := hh.frozen 0
    have hpl : pre.length + 1 ≤ M := by
      have := congrArg List.length hxs
      rw [upL_length] at this
      simp at this
      omega
    have hs2 : w.heap.size ≤ W2.heap.size := hB.1.size
    have hal := hr.alloc (.cells #[pieceV b off n x] 24)
    have hnew : ∀ j u, [pieceV b off n x][j]? = some u → (W2.alloc (.cells #[pieceV b off n x] 24)).cell? ((⟨W2.heap.size, 0, none⟩ : Addr).add j) = some u := by
      intro j u hj
      match j, hj with
      | 0, hj =>
        simp at hj; subst hj
        rw [Addr.add_lit, World.cell?_alloc_at _ _ _ _ rfl]; rfl
    have hone : ∀ u ∈ [pieceV b off n x], u.oneCell' = true := by intro u hu; simp at hu; subst hu; rfl
    have hlen6 : pre.length + 1 ≤ maxLen := by unfold maxLen; omega
    have hby6 : (pre.length + 1) * 24 ≤ 140737488355328 := by omega
    have hbs6 : w.heap.size ≤ (W2.alloc (.cells #[pieceV b off n x] 24)).heap.size := by simp; omega
    have HR := Lib.hid hr
    have HH := Lib.hid hh
    have HN := Lib.hid hno
    have HB := Lib.hid hB
    have HT := Lib.hid htop
    clear hh hr hno hB htop hxs hC hIT
    obtain ⟨q, hq⟩ : ∃ q, off + x * n = q := ⟨_, rfl⟩
    have ep : pieceV b off n x = .slice (some ⟨b, q, none⟩) n n := by unfold pieceV; rw [hq]
    have EP := Lib.hid ep
    rw [ep] at hal hnew hone hbs6
    simp only [ep]
    clear ep hq
    gi_wp2
    refine ⟨trivial, ?_⟩
    gi_wp2_with (gi_at_builtin; refine wpListIn_append_new _ rfl _ _ 72 rfl w.heap.size 24 i0 (.slice none 0 0) 1 24 Try.underlying72 hi hz0 hz1 hz2 rfl (by decide) v pre.length (pre.map (pieceV b off n)) rfl hal ⟨W2.heap.size, 0, none⟩ 1 1 [.slice (some ⟨b, q, none⟩) n n] rfl rfl hnew hone hlen6 hby6 hbs6 ?_)
    intro v' w4 hown hgrow hwhere
    rw [← EP.out] at hown hgrow
    obtain ⟨g', cap', rfl⟩ := ownsRow_succ hown
    obtain ⟨a1, a2, a3, a4, a5⟩ := Boxed.appended HH.out.2 (by decide) HR.out hs2 (Nat.le_refl _) hown hgrow
    have c1 : w4.cell? ⟨w.heap.size, 0, none⟩ = some v := by rw [Joins.cell_of_block a1]; rfl
    have f1 : w4.frozen? ⟨w.heap.size, 0, none⟩ = false := Joins.unfrozen_of_block a1 0
    have fin : RdStep (fun k => ChunkR Bs Bn k ∨ O k) W2 (w4.setCell ⟨w.heap.size, 0, none⟩ (.slice (some ⟨g', 0, none⟩) (pre.length + 1) cap')) ∧ ColI w b off n (pre ++ [x]) O (w4.setCell ⟨w.heap.size, 0, none⟩ (.slice (some ⟨g', 0, none⟩) (pre.length + 1) cap')) := by
      have hsz2 : W2.heap.size ≤ (w4.setCell ⟨w.heap.size, 0, none⟩ (.slice (some ⟨g', 0, none⟩) (pre.length + 1) cap')).heap.size := a5.size
      refine ⟨⟨a5.os, a5.tape, a5.output, hsz2, ?_⟩, _, ⟨HH.out.1, a2⟩, ?_, ?_, ⟨HB.out.1.trans a5, HB.out.2⟩, fun k hk => Nat.lt_of_lt_of_le (HT.out k hk) hsz2⟩
      · intro k hk hm
        have hkB : k ≠ w.heap.size := by
          rintro rfl
          rcases hm with (h | h) | h
          · omega
          · omega
          · exact HH.out.1 h
        have hkv : some k ≠ v.ownBlock := by
          intro e'
          rcases hm with (h | h) | h
          · have := (HR.out.lt k e'.symm).1; omega
          · have := (HR.out.lt k e'.symm).1; omega
          · exact HN.out k e'.symm h
        rw [Below.heap_setCell w4 ⟨w.heap.size, 0, none⟩ _ k hkB, hgrow.block k (by simp; omega) hkv]
        exact Below.heap_alloc _ _ _ hk
      · have e1 : (pre ++ [x]).length = pre.length + 1 := by simp
        have e2 : (pre ++ [x]).map (pieceV b off n) = pre.map (pieceV b off n) ++ [pieceV b off n x] := by simp
        rw [e1, e2]
        exact a3
      · intro q hq ho
        rcases hwhere q hq with h | h
        · exact HN.out q h ho
        · have := HT.out q ho
          omega
    have F := Lib.hid fin
    clear fin a1 a2 a3 a4 a5 hown hgrow hwhere hal hnew
    gi_wp2_with fail
    exact F.out

set_option maxHeartbeats 400000 in
theorem collect_any (Bs Bn b off cap n M L : Nat) (hn : 1 ≤ n) (hL : L = M * n) (hc1 : L ≤ cap) (hc2 : cap ≤ 9223372036854775807) (hL6 : L ≤ 1000000) (hM : M ≤ 2000) (w : World) (hC : ChunkC Bs Bn b off L cap n w) :
    Calls Try.prog 59 #[.func (.func 70) #[] #[.pointer (some ⟨Bs, 0, none⟩), .pointer (some ⟨Bn, 0, none⟩)]] w
      fun e w' => ∃ v, e = .returned v ∧ w'.ownsRow w.heap.size 24 1 v M ((upL 0 M).map (pieceV b off n)) ∧ Below w.heap.size w w' := by
  have C := Lib.hid (appendseq_any Bs Bn b off cap n M L hn hL hc1 hc2 hL6 hM w hC)
  clear hC hL
  go_enter Try.func59, Try.ntmps59
  go_wp2_with fail
  refine C.out.mono ?_
  rintro e w1 ⟨v, rfl, ho, hb⟩
  have P := Lib.hid (And.intro ho hb)
  clear ho hb
  go_wp2_with fail
  go_ret
  exact ⟨v, rfl, P.out.1, P.out.2⟩
end Go.Proofs.Ytjphdkbhkkpeoaa
