/-
  The argument of the statements on gradients: a struct of a kind, its number, inputs and a gradient; appends of tensors.
-/
import Derived.Test.YtilocmdanjekhaaAwake05
import Derived.Laws.AppendOwnNone
namespace Go.Proofs.Ytilocmdanjekhaa
open Go.RowKit Go.ChangeShapes Go.WideShapes Go.Deep
set_option linter.unusedVariables false
set_option linter.unusedSimpArgs false

/-- A block holds a kind, its number, inputs and a gradient. -/
def BAt (w : World) (B : Nat) (a b c d e : Value) : Prop := w.heap[B]? = some (.cells #[a, b, c, d, e] 40 (0, 0))
section
variable {w w' : World} {B : Nat} {a b c d e : Value}
theorem BAt.lt (h : BAt w B a b c d e) : B < w.heap.size := (Array.getElem?_eq_some_iff.1 h).1
theorem BAt.kept (h : BAt w B a b c d e) (hb : Below w.heap.size w w') : BAt w' B a b c d e := (hb.block B h.lt).trans h
theorem BAt.below {n : Nat} (h : BAt w B a b c d e) (hb : Below n w w') (hn : B < n) : BAt w' B a b c d e := (hb.block B hn).trans h
theorem BAt.see (h : BAt w B a b c d e) : w.cell? ⟨B, 0, none⟩ = some a ∧ w.cell? ⟨B, 1, none⟩ = some b ∧ w.cell? ⟨B, 2, none⟩ = some c ∧ w.cell? ⟨B, 3, none⟩ = some d ∧ w.cell? ⟨B, 4, none⟩ = some e := by
  refine ⟨?_, ?_, ?_, ?_, ?_⟩ <;> (rw [Joins.cell_of_block h]; rfl)
end
theorem backed_box (w : World) (a b c d e : Value) : ∃ wB, Hid (w.alloc (.cells #[a, b, c, d, e] 40) = wB) ∧ Hid (BAt wB w.heap.size a b c d e) ∧ Hid (Below w.heap.size w wB) ∧ Hid (wB.heap.size = w.heap.size + 1) :=
  ⟨_, Lib.hid rfl, Lib.hid (World.alloc_heap_new w _), Lib.hid ((Below.refl _ _).alloc (Nat.le_refl _) _), Lib.hid (by simp)⟩

theorem bcellsI : Try.prog.cellsOf 3 = 1 := by kernel_rfl
theorem bcellsK : Try.prog.cellsOf 22 = 1 := by kernel_rfl
theorem bcellsL : Try.prog.cellsOf 23 = 1 := by kernel_rfl
theorem bcellsB : Try.prog.cellsOf 40 = 5 := by kernel_rfl

section
variable {H : Type} {enc : TypeId × Value → H} {w : World} {base : Nat} {spare : Nat → Bool} {held : Bool}
theorem grid_one {fuel : Nat} {c0 c1 : Value} {x : DataW H × List MemPlace} (h : DataW.trod enc Try.prog w base spare held fuel 30 [c0, c1] = some x) (hw : ∀ n ∈ x.1.weights Try.prog 30, n ≤ reachBytes) :
    ∃ t : TV, c0 = .slice t.sa t.sl t.sc ∧ c1 = .slice t.ca t.cl t.cc ∧ t.At w := by
  obtain ⟨xs, n, -, hxy, -, hxl, hat⟩ := DataW.trod_struct Try.underlying30 h
  match xs, hxl with
  | [(d0, p0), (d1, p1)], _ =>
    have h0 := hat 0 _ rfl
    have h1 := hat 1 _ rfl
    have g0 : DataW.trod enc Try.prog w base spare held n 27 (([c0, c1].drop 0).take (Try.prog.cellsOf 27)) = some (d0, p0) := h0
    have g1 : DataW.trod enc Try.prog w base spare held n 28 (([c0, c1].drop 1).take (Try.prog.cellsOf 28)) = some (d1, p1) := h1
    rw [gcellsS] at g0
    rw [gcellsF] at g1
    have ex : x.1 = .agg [d0, d1] := by rw [hxy]; rfl
    rw [ex] at hw
    exact grid_sized (n := n) (v0 := c0) (v1 := c1) g0 g1 (fun n hn => hw n (agg_weights (.inl hn))) (fun n hn => hw n (agg_weights (.inr hn)))

/-- A slice of tensors, opened, with what the reach gives. -/
theorem grids_cell2 {fuel : Nat} {c : Value} {x : DataW H × List MemPlace} (h : DataW.trod enc Try.prog w base spare held fuel 23 [c] = some x) (hw : ∀ n ∈ x.1.weights Try.prog 23, n ≤ reachBytes) :
    ∃ a len cap ts, c = .slice a len cap ∧ GsAt w a len ts ∧ len ≤ 2932031007317 ∧ (a = none → len = 0 ∧ cap = 0) := by
  obtain ⟨a, len, cap, ts, rfl, hg⟩ := grids_cell h hw
  refine ⟨a, len, cap, ts, rfl, hg, ?_⟩
  rcases open_slice Try.underlying23 h with ⟨hcs, -⟩ | ⟨a', len', cap', m, n, D, Pl, hcs, hb, hl, hm, hmm, rfl, hx⟩
  · have := (List.cons.inj hcs).1
    simp only [Value.slice.injEq] at this
    obtain ⟨rfl, rfl, rfl⟩ := this
    exact ⟨by omega, fun _ => ⟨rfl, rfl⟩⟩
  · have := (List.cons.inj hcs).1
    simp only [Value.slice.injEq] at this
    obtain ⟨rfl, rfl, rfl⟩ := this
    have hlm : len ≤ m := by rw [hmm]; split <;> omega
    have hw1 := hw (m * 48) (by
      simp only [DataW.weights, Try.underlying23, List.mem_cons, gbytesG]
      refine .inl ?_
      simp
      omega)
    have hr : reachBytes = 140737488351232 := by decide
    rw [hr] at hw1
    exact ⟨by omega, fun e => by cases e⟩

set_option maxRecDepth 100000 in
theorem backed_open {r : Reach} {b0 : Nat} {v : Value} {d : DataW H} {p : List MemPlace} (hv : Value.okWide Try.prog w r b0 40 v) (h : DataW.Trod enc Try.prog w base spare held 40 v d p)
    (hw : ∀ n ∈ d.weights Try.prog 40, n ≤ reachBytes) :
    ∃ kind k a len cap ts G, v = .agg #[.int .i64 kind, .int .i64 k, .slice a len cap, .slice (TV.sa G) (TV.sl G) (TV.sc G), .slice (TV.ca G) (TV.cl G) (TV.cc G)] ∧
      (-9223372036854775808 ≤ kind ∧ kind ≤ 9223372036854775807) ∧ (-9223372036854775808 ≤ k ∧ k ≤ 9223372036854775807) ∧ GsAt w a len ts ∧ G.At w ∧ (len ≤ 2932031007317 ∧ (a = none → len = 0 ∧ cap = 0)) := by
  obtain ⟨⟨l⟩, rfl, hsz⟩ := okWide_struct Try.underlying40 hv
  obtain ⟨fuel, hf⟩ := h
  obtain ⟨xs, n, -, hxy, -, hxl, hat⟩ := DataW.trod_struct Try.underlying40 hf
  replace hsz : l.length = Try.prog.cellsOf 40 := hsz
  rw [bcellsB] at hsz
  match l, hsz, xs, hxl with
  | [c0, c1, c2, c3, c4], _, [(d0, p0), (d1, p1), (d2, p2), (d3, p3)], _ =>
    have ed : d = .agg [d0, d1, d2, d3] := by
      have := congrArg Prod.fst hxy
      exact this
    rw [ed] at hw
    have hwe : ∀ {j : Nat} {t : TypeId} {x : DataW H}, [3, 22, 23, 30][j]? = some t → [d0, d1, d2, d3][j]? = some x → ∀ n ∈ x.weights Try.prog t, n ≤ reachBytes := fun ht hd n hn => hw n (by
      simp only [DataW.weights, Try.underlying40]
      exact DataW.weights_mem_each ht hd n hn)
    have h0 := hat 0 _ rfl
    have g0 : DataW.trod enc Try.prog w base spare held n 3 (([c0, c1, c2, c3, c4].drop 0).take (Try.prog.cellsOf 3)) = some (d0, p0) := h0
    rw [bcellsI] at g0
    replace g0 : DataW.trod enc Try.prog w base spare held n 3 [c0] = some (d0, p0) := g0
    have h1 := hat 1 _ rfl
    have g1 : DataW.trod enc Try.prog w base spare held n 22 (([c0, c1, c2, c3, c4].drop 1).take (Try.prog.cellsOf 22)) = some (d1, p1) := h1
    rw [bcellsK] at g1
    replace g1 : DataW.trod enc Try.prog w base spare held n 22 [c1] = some (d1, p1) := g1
    have h2 := hat 2 _ rfl
    have g2 : DataW.trod enc Try.prog w base spare held n 23 (([c0, c1, c2, c3, c4].drop 2).take (Try.prog.cellsOf 23)) = some (d2, p2) := h2
    rw [bcellsL] at g2
    replace g2 : DataW.trod enc Try.prog w base spare held n 23 [c2] = some (d2, p2) := g2
    have h3 := hat 3 _ rfl
    have g3 : DataW.trod enc Try.prog w base spare held n 30 (([c0, c1, c2, c3, c4].drop 3).take (Try.prog.cellsOf 30)) = some (d3, p3) := h3
    rw [gcellsG] at g3
    replace g3 : DataW.trod enc Try.prog w base spare held n 30 [c3, c4] = some (d3, p3) := g3
    obtain ⟨kind, rfl, a1, b1⟩ := field_int Try.underlying3 g0
    obtain ⟨k, rfl, a2, b2⟩ := field_int Try.underlying22 g1
    obtain ⟨a, len, cap, ts, rfl, hg, hl⟩ := grids_cell2 g2 (hwe (j := 2) rfl rfl)
    obtain ⟨G, rfl, rfl, hG⟩ := grid_one g3 (hwe (j := 3) rfl rfl)
    exact ⟨kind, k, a, len, cap, ts, G, rfl, ⟨a1, b1⟩, ⟨a2, b2⟩, hg, hG, hl⟩
end

theorem gsat_of2 {w : World} {B g : Nat} {len cap : Nat} {ts : List TV} (h : w.ownsRow B 30 2 (.slice (some ⟨g, 0, none⟩) len cap) len (gcells ts)) (hl : len ≤ 2932031007402) (hm : ∀ t ∈ ts, t.At w) : GsAt w (some ⟨g, 0, none⟩) len ts := by
  have hlen : ts.length = len := by have := h.1; rw [gcells_length] at this; omega
  refine ⟨hlen, hl, hm, .inr ⟨g, 0, rfl, fun j t hj => ?_⟩⟩
  have hjl : j < ts.length := (List.getElem?_eq_some_iff.1 hj).1
  rw [Nat.zero_add, h.cellAt (j * 2) (by omega), h.cellAt (j * 2 + 1) (by omega)]
  exact gcells_get hj
theorem gs1_over {w w' : World} {t : TV} {b : Nat} (h : GsAt w (some ⟨b, 0, none⟩) 1 [t]) (hb : w'.heap[b]? = w.heap[b]?) (hA : t.At w') : GsAt w' (some ⟨b, 0, none⟩) 1 [t] := by
  refine ⟨rfl, by omega, fun u hu => by rw [List.mem_singleton] at hu; subst hu; exact hA, ?_⟩
  rcases h.2.2.2 with h4 | ⟨b', off, ha, hc⟩
  · omega
  · cases ha
    refine .inr ⟨b, 0, rfl, fun j u hj => ?_⟩
    obtain ⟨k1, k2⟩ := hc j u hj
    rw [World.cell?_of_block (w := w) (w' := w') (a := ⟨b, 0 + j * 2, none⟩) hb, World.cell?_of_block (w := w) (w' := w') (a := ⟨b, 0 + j * 2 + 1, none⟩) hb]
    exact ⟨k1, k2⟩
theorem gs1_lt {w : World} {t : TV} {b : Nat} (h : GsAt w (some ⟨b, 0, none⟩) 1 [t]) : b < w.heap.size := by
  rcases h.2.2.2 with h4 | ⟨b', off, ha, hc⟩
  · omega
  · cases ha
    exact World.block_lt_of_cell? w _ (hc 0 t rfl).1
theorem gs_at0 {w : World} {M n : Nat} {us : List TV} (h : GsAt w (some ⟨M, 0, none⟩) n us) {j : Nat} (hj : j < n) :
    ∃ u, us[j]? = some u ∧ w.cell? ⟨M, j * 2, none⟩ = some (.slice u.sa u.sl u.sc) ∧ w.cell? ⟨M, j * 2 + 1, none⟩ = some (.slice u.ca u.cl u.cc) ∧ u.At w := by
  obtain ⟨u, b, off, hu, e, d0, d1, hA⟩ := h.at hj
  cases e
  rw [Nat.zero_add] at d0 d1
  exact ⟨u, hu, d0, d1, hA⟩
section
variable {w : World}
/-- The builtin append of tensors to a row of one's own. -/
theorem wp_append_gs {o : Oper} {a : Act} {K : Act → World → Prop} {Q : Exit → Act → World → Prop} (s x : Operand)
    (ho : o.op = .call { callee := .builtin .append, args := #[s, x], argTypes := #[23, 23] })
    (B : Nat) (v : Value) (n : Nat) (us : List TV) (hs : a.eval s = v) (hown : w.ownsRow B 30 2 v n (gcells us))
    (av : Option Addr) (m c : Nat) (ts : List TV) (hx : a.eval x = .slice av m c) (hG : GsAt w av m ts) (hn : av = none → m = 0 ∧ c = 0) (hb : n + m ≤ 2932031007402) (hbase : B ≤ w.heap.size)
    (h : ∀ v' w', w'.ownsRow B 30 2 v' (n + m) (gcells (us ++ ts)) → w.grownBy w' v.ownBlock → K (a.put o.dst v') w') : o.wp Try.prog a w K Q := by
  obtain ⟨i0, hi, hz0, hz1, hz2⟩ := info_parts gridInfo
  cases av with
  | none =>
    obtain ⟨rfl, rfl⟩ := hn rfl
    have e1 : ts = [] := List.length_eq_zero_iff.1 hG.1
    subst e1
    have hrun := run_append_owned_none (P := Try.prog) (w := w) B 23 o.type 30 i0 2 Try.underlying23 hi v n (gcells us) hown
    unfold Oper.wp
    simp [execOp, ho, resolve, invoke, builtin, hs, hx, hrun, Result.andThen]
    exact h v w (by rw [List.append_nil]; exact hown) ⟨rfl, rfl, rfl, Nat.le_refl _, fun _ _ _ => rfl⟩
  | some ad =>
    refine wp_append_own w s x 23 ho B 30 i0 (.agg #[.slice none 0 0, .slice none 0 0]) 2 48 Try.underlying23 hi hz0 hz1 hz2 rfl (by decide) v n (gcells us) hs hown ad m c (gcells ts) hx (by rw [gcells_length, hG.1]) ?_ ?_ (by unfold maxLen; omega) (by omega) hbase ?_
    · intro j u hj
      have hjl : j < ts.length * 2 := by rw [← gcells_length]; exact (List.getElem?_eq_some_iff.1 hj).1
      rcases hG.2.2.2 with h4 | ⟨b, off, ha, hc⟩
      · have := hG.1; omega
      · cases ha
        obtain ⟨t, ht⟩ : ∃ t, ts[j / 2]? = some t := ⟨_, List.getElem?_eq_getElem (by omega)⟩
        obtain ⟨e1, e2⟩ := gcells_get ht
        obtain ⟨k1, k2⟩ := hc _ _ ht
        rw [add_plain]
        have : j = j / 2 * 2 ∨ j = j / 2 * 2 + 1 := by omega
        rcases this with e | e
        · rw [e] at hj ⊢
          rw [e1] at hj
          cases hj
          exact k1
        · rw [e] at hj ⊢
          rw [e2] at hj
          cases hj
          rw [← Nat.add_assoc]
          exact k2
    · intro u hu
      have : ∀ (l : List TV), u ∈ gcells l → u.oneCell' = true := by
        intro l
        induction l with
        | nil => intro h; cases h
        | cons t r ih =>
          intro h
          simp only [gcells, List.mem_cons] at h
          rcases h with rfl | rfl | h
          · rfl
          · rfl
          · exact ih h
      exact this ts hu
    · intro v' w' h1 h2 _
      exact h v' w' (by rw [gcells_append]; exact h1) h2
end

section
variable {P : Program} {md : Region.Mode} {ops : Array Oper} {Q : Exit → Act → World → Prop} {S : World → Prop}
/-- Two operations may come up. -/
theorem held_two (i j : Nat) {o1 o2 : Oper} {fuel : Nat} {listed : Array Bool} {a : Act} {w : World} (hr : Region.ready md ops listed = [i, j]) (h1 : ops.toList[i]? = some o1) (h2 : ops.toList[j]? = some o2)
    (hw1 : Region.wanted o1 (yielded ops a.tmps) = true) (hw2 : Region.wanted o2 (yielded ops a.tmps) = true)
    (H1 : ∀ K' : Act → World → Prop, Shut (∀ a w, S w → (S w → wpAnyH P md ops Q S fuel (listed.setIfInBounds i true) a w) → K' a w) → Oper.wp P o1 a w K' Q)
    (H2 : ∀ K' : Act → World → Prop, Shut (∀ a w, S w → (S w → wpAnyH P md ops Q S fuel (listed.setIfInBounds j true) a w) → K' a w) → Oper.wp P o2 a w K' Q) : wpAnyH P md ops Q S (fuel + 1) listed a w :=
  wpAnyH_ready hr (by simp) (AllReadyH.cons (by rw [← Array.getElem?_toList]; exact h1) (fun K hK => by rw [if_pos hw1]; exact H1 K hK) (AllReadyH.cons (by rw [← Array.getElem?_toList]; exact h2) (fun K hK => by rw [if_pos hw2]; exact H2 K hK) AllReadyH.nil))
end
end Go.Proofs.Ytilocmdanjekhaa
