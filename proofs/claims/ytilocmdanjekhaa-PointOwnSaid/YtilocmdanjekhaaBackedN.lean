/-
  The argument of the statements on gradients, opened with what is known of nil rows; appends of integers to rows of one's own.
-/
import Derived.Test.YtilocmdanjekhaaBacked
import Derived.Test.YtilocmdanjekhaaPointGoesW
import Derived.Maps.AppendAt
namespace Go.Proofs.Ytilocmdanjekhaa
open Go.RowKit Go.ChangeShapes Go.WideShapes Go.Deep
set_option linter.unusedVariables false
set_option linter.unusedSimpArgs false

/-- A nil row holds nothing. -/
def TV.Nil (t : TV) : Prop := (t.sa = none → t.sl = 0 ∧ t.sc = 0) ∧ (t.ca = none → t.cl = 0 ∧ t.cc = 0)
section
variable {H : Type} {enc : TypeId × Value → H} {P : Program} {w : World} {base : Nat} {spare : Nat → Bool} {held : Bool}

theorem field_ints_sized3 {t e : TypeId} {fuel : Nat} {c : Value} {x : DataW H × List MemPlace} (ht : P.underlying t = some (.slice e)) (he : P.underlying e = some (.int .i64)) (hc : P.cellsOf e = 1) (hb : P.bytesOf e = 8)
    (h : DataW.trod enc P w base spare held fuel t [c] = some x) (hw : ∀ n ∈ x.1.weights P t, n ≤ reachBytes) : ∃ a len cap zs, c = .slice a len cap ∧ IntsAt w a len zs ∧ len ≤ 17592186044416 ∧ (a = none → len = 0 ∧ cap = 0) := by
  rcases open_ints ht he hc h with ⟨hcs, -⟩ | ⟨a, len, cap, zs, hcs, -, hl, hm, hz, hx, hcell, hwz⟩
  · obtain rfl := (List.cons.inj hcs).1
    exact ⟨_, _, _, _, rfl, IntsAt.nil _ _, by omega, fun _ => ⟨rfl, rfl⟩⟩
  · obtain rfl := (List.cons.inj hcs).1
    have hz' : zs.length = cap ∨ zs.length = len := by
      split at hz
      · exact .inl hz
      · exact .inr hz
    have hlz : len ≤ zs.length := by omega
    have hwt : zs.length * 8 ≤ reachBytes := by
      have := hw (zs.length * 8) (by
        rw [hx]
        simp only [DataW.weights, ht, List.mem_cons]
        refine .inl ?_
        rw [hb]
        simp [lits]
        omega)
      exact this
    have hr : reachBytes = 140737488351232 := by decide
    rw [hr] at hwt
    refine ⟨_, _, cap, zs.take len, rfl, ?_, by omega, fun e => by cases e⟩
    rcases hz' with hs | hs
    · exact IntsAt.of_row hl hm hs hcell hwz
    · exact IntsAt.of_row (cap := len) (Nat.le_refl _) (by omega) hs hcell hwz
end


section
variable {H : Type} {enc : TypeId × Value → H} {w : World} {base : Nat} {spare : Nat → Bool} {held : Bool}
/-- A tensor's two cells, opened. -/
theorem grid_sized3 {n : Nat} {v0 v1 : Value} {d0 d1 : DataW H} {p0 p1 : List MemPlace} (h0 : DataW.trod enc Try.prog w base spare held n 27 [v0] = some (d0, p0)) (h1 : DataW.trod enc Try.prog w base spare held n 28 [v1] = some (d1, p1))
    (w0 : ∀ n ∈ d0.weights Try.prog 27, n ≤ reachBytes) (w1 : ∀ n ∈ d1.weights Try.prog 28, n ≤ reachBytes) :
    ∃ t : TV, v0 = .slice t.sa t.sl t.sc ∧ v1 = .slice t.ca t.cl t.cc ∧ t.At w ∧ t.Nil := by
  obtain ⟨sa, sl, sc, ss, rfl, i0, l0, z0⟩ := field_ints_sized3 Try.underlying27 Try.underlying3 (by kernel_rfl) gbytesI h0 w0
  obtain ⟨ca, cl, cc, cs, rfl, i1, l1, z1⟩ := field_ints_sized3 Try.underlying28 Try.underlying22 (by kernel_rfl) gbytesF h1 w1
  exact ⟨⟨sa, sl, sc, ss, ca, cl, cc, cs⟩, rfl, rfl, ⟨i0, i1, l0, l1⟩, z0, z1⟩

theorem grids_cell3 {fuel : Nat} {c : Value} {x : DataW H × List MemPlace} (h : DataW.trod enc Try.prog w base spare held fuel 23 [c] = some x) (hw : ∀ n ∈ x.1.weights Try.prog 23, n ≤ reachBytes) :
    ∃ a len cap ts, c = .slice a len cap ∧ GsAt w a len ts ∧ len ≤ 2932031007317 ∧ (a = none → len = 0 ∧ cap = 0) ∧ ∀ t ∈ ts, t.Nil := by
  rcases open_slice_pairs Try.underlying23 Try.underlying30 gcellsG rfl rfl gcellsS gcellsF h with ⟨hcs, -⟩ | ⟨a, len, cap, m, n, V0, V1, D0, D1, P0, P1, hcs, hb, hl, hm, hmm, rfl, hx⟩
  · obtain rfl := (List.cons.inj hcs).1
    exact ⟨_, _, _, _, rfl, GsAt.nil _ _, by omega, fun _ => ⟨rfl, rfl⟩, (fun t ht => (List.not_mem_nil ht).elim)⟩
  · obtain rfl := (List.cons.inj hcs).1
    have hlm : len ≤ m := by rw [hmm]; split <;> omega
    have hw1 := hw (m * 48) (by
      simp only [DataW.weights, Try.underlying23, List.mem_cons, gbytesG]
      refine .inl ?_
      simp
      omega)
    have hr : reachBytes = 140737488351232 := by decide
    rw [hr] at hw1
    have each : ∀ i, i < len → ∃ t : TV, V0 i = .slice t.sa t.sl t.sc ∧ V1 i = .slice t.ca t.cl t.cc ∧ t.At w ∧ t.Nil := by
      intro i hi
      obtain ⟨-, -, g0, g1⟩ := hx i (by omega)
      have hin : ∀ n, n ∈ (DataW.agg [D0 i, D1 i]).weights Try.prog 30 → n ≤ reachBytes := fun n hn => hw n (by
        simp only [DataW.weights, Try.underlying23, List.mem_cons, List.mem_append]
        exact .inr (.inl (weightsAll_mem (List.mem_map.2 ⟨i, List.mem_range.2 hi, rfl⟩) n hn)))
      exact grid_sized3 g0 g1 (fun n hn => hin n (agg_weights (.inl hn))) (fun n hn => hin n (agg_weights (.inr hn)))
    obtain ⟨f, hf⟩ := choose_lt each
    refine ⟨_, _, cap, (List.range len).map f, rfl, ⟨by simp, by omega, ?_, ?_⟩, by omega, (fun e => by cases e), ?_⟩
    · intro t ht
      obtain ⟨i, hi, rfl⟩ := List.mem_map.1 ht
      exact (hf i (List.mem_range.1 hi)).2.2.1
    · by_cases h0 : len = 0
      · exact .inl h0
      · obtain ⟨b, off, spot⟩ := a
        have hspot : spot = none := by simpa [Addr.add] using World.cell?_spot (hx 0 (by omega)).1
        subst hspot
        refine .inr ⟨b, off, rfl, fun j t hj => ?_⟩
        rw [List.getElem?_map] at hj
        obtain ⟨i, hi, rfl⟩ := Option.map_eq_some_iff.1 hj
        obtain ⟨hlt, rfl⟩ : j < len ∧ j = i := by
          obtain ⟨h1, h2⟩ := List.getElem?_eq_some_iff.1 hi
          rw [List.length_range] at h1
          rw [List.getElem_range] at h2
          exact ⟨h1, h2⟩
        obtain ⟨c0, c1, -, -⟩ := hx j (by omega)
        rw [add_plain] at c0 c1
        rw [(hf j hlt).1] at c0
        rw [(hf j hlt).2.1] at c1
        exact ⟨c0, by rw [Nat.add_assoc]; exact c1⟩
    · intro t ht
      obtain ⟨i, hi, rfl⟩ := List.mem_map.1 ht
      exact (hf i (List.mem_range.1 hi)).2.2.2
end

section
variable {H : Type} {enc : TypeId × Value → H} {w : World} {base : Nat} {spare : Nat → Bool} {held : Bool}
set_option maxRecDepth 100000 in
theorem backed_open3 {r : Reach} {b0 : Nat} {v : Value} {d : DataW H} {p : List MemPlace} (hv : Value.okWide Try.prog w r b0 40 v) (h : DataW.Trod enc Try.prog w base spare held 40 v d p)
    (hw : ∀ n ∈ d.weights Try.prog 40, n ≤ reachBytes) :
    ∃ kind k a len cap ts G, v = .agg #[.int .i64 kind, .int .i64 k, .slice a len cap, .slice (TV.sa G) (TV.sl G) (TV.sc G), .slice (TV.ca G) (TV.cl G) (TV.cc G)] ∧
      (-9223372036854775808 ≤ kind ∧ kind ≤ 9223372036854775807) ∧ (-9223372036854775808 ≤ k ∧ k ≤ 9223372036854775807) ∧ GsAt w a len ts ∧ G.At w ∧ (len ≤ 2932031007317 ∧ (a = none → len = 0 ∧ cap = 0)) ∧ (∀ t ∈ ts, t.Nil) := by
  obtain ⟨⟨l⟩, rfl, hsz⟩ := okWide_struct Try.underlying40 hv
  obtain ⟨fuel, hf⟩ := h
  obtain ⟨xs, n, -, hxy, -, hxl, hat⟩ := DataW.trod_struct Try.underlying40 hf
  replace hsz : l.length = Try.prog.cellsOf 40 := hsz
  rw [bcellsB] at hsz
  match l, hsz, xs, hxl with
  | [c0, c1, c2, c3, c4], _, [(d0, p0), (d1, p1), (d2, p2), (d3, p3)], _ =>
    have ed : d = .agg [d0, d1, d2, d3] := by
      have := congrArg Prod.fst hxy
      exact this
    rw [ed] at hw
    have hwe : ∀ {j : Nat} {t : TypeId} {x : DataW H}, [3, 22, 23, 30][j]? = some t → [d0, d1, d2, d3][j]? = some x → ∀ n ∈ x.weights Try.prog t, n ≤ reachBytes := fun ht hd n hn => hw n (by
      simp only [DataW.weights, Try.underlying40]
      exact DataW.weights_mem_each ht hd n hn)
    have h0 := hat 0 _ rfl
    have g0 : DataW.trod enc Try.prog w base spare held n 3 (([c0, c1, c2, c3, c4].drop 0).take (Try.prog.cellsOf 3)) = some (d0, p0) := h0
    rw [bcellsI] at g0
    replace g0 : DataW.trod enc Try.prog w base spare held n 3 [c0] = some (d0, p0) := g0
    have h1 := hat 1 _ rfl
    have g1 : DataW.trod enc Try.prog w base spare held n 22 (([c0, c1, c2, c3, c4].drop 1).take (Try.prog.cellsOf 22)) = some (d1, p1) := h1
    rw [bcellsK] at g1
    replace g1 : DataW.trod enc Try.prog w base spare held n 22 [c1] = some (d1, p1) := g1
    have h2 := hat 2 _ rfl
    have g2 : DataW.trod enc Try.prog w base spare held n 23 (([c0, c1, c2, c3, c4].drop 2).take (Try.prog.cellsOf 23)) = some (d2, p2) := h2
    rw [bcellsL] at g2
    replace g2 : DataW.trod enc Try.prog w base spare held n 23 [c2] = some (d2, p2) := g2
    have h3 := hat 3 _ rfl
    have g3 : DataW.trod enc Try.prog w base spare held n 30 (([c0, c1, c2, c3, c4].drop 3).take (Try.prog.cellsOf 30)) = some (d3, p3) := h3
    rw [gcellsG] at g3
    replace g3 : DataW.trod enc Try.prog w base spare held n 30 [c3, c4] = some (d3, p3) := g3
    obtain ⟨kind, rfl, a1, b1⟩ := field_int Try.underlying3 g0
    obtain ⟨k, rfl, a2, b2⟩ := field_int Try.underlying22 g1
    obtain ⟨a, len, cap, ts, rfl, hg, hl1, hl2, hnil⟩ := grids_cell3 g2 (hwe (j := 2) rfl rfl)
    obtain ⟨G, rfl, rfl, hG⟩ := grid_one g3 (hwe (j := 3) rfl rfl)
    exact ⟨kind, k, a, len, cap, ts, G, rfl, ⟨a1, b1⟩, ⟨a2, b2⟩, hg, hG, ⟨hl1, hl2⟩, hnil⟩
end

/-- What another row's growth leaves. -/
theorem grown_row {w w' : World} {B : Nat} {e : TypeId} {k : Nat} {v : Value} {n : Nat} {xs : List Value} {row : Option Nat} (h : w.ownsRow B e k v n xs) (hg : w.grownBy w' row) (hne : ∀ q, v.ownBlock = some q → some q ≠ row) : w'.ownsRow B e k v n xs := by
  rcases h.2 with h2 | ⟨g, cap, cur, hv, hbg, hg', rest⟩
  · exact ⟨h.1, .inl h2⟩
  · have hb : v.ownBlock = some g := by rw [hv]; rfl
    exact ⟨h.1, .inr ⟨g, cap, cur, hv, hbg, (hg.block g (h.lt g hb).2 (hne g hb)).trans hg', rest⟩⟩

/-- The builtin append of integers to a row of one's own. -/
theorem wp_append_ints {w : World} {o : Oper} {a : Act} {K : Act → World → Prop} {Q : Exit → Act → World → Prop} (s x : Operand) (t e : TypeId)
    (ho : o.op = .call { callee := .builtin .append, args := #[s, x], argTypes := #[t, t] }) (hu : Try.prog.underlying t = some (.slice e)) (hinfo : (Try.prog.info? e).map (fun i => (i.zero, i.size, i.bytes)) = some (some (.int .i64 0), 1, 8))
    (B : Nat) (v : Value) (n : Nat) (xs : List Int) (hs : a.eval s = v) (hown : w.ownsRow B e 1 v n (xs.map (Value.int .i64)))
    (av : Option Addr) (m c : Nat) (zs : List Int) (hx : a.eval x = .slice av m c) (hG : IntsAt w av m zs) (hn : av = none → m = 0 ∧ c = 0) (hb : n + m ≤ 1000000) (hbase : B ≤ w.heap.size)
    (h : ∀ v' w', w'.ownsRow B e 1 v' (n + m) ((xs ++ zs).map (Value.int .i64)) → w.grownBy w' v.ownBlock → (v'.ownBlock = v.ownBlock ∨ v'.ownBlock = some w.heap.size) → K (a.put o.dst v') w') : o.wp Try.prog a w K Q := by
  obtain ⟨i0, hi, hz0, hz1, hz2⟩ := info_parts hinfo
  cases av with
  | none =>
    obtain ⟨rfl, rfl⟩ := hn rfl
    have e1 : zs = [] := List.length_eq_zero_iff.1 hG.1
    subst e1
    have hrun := run_append_owned_none (P := Try.prog) (w := w) B t o.type e i0 1 hu hi v n (xs.map (Value.int .i64)) hown
    unfold Oper.wp
    simp [execOp, ho, resolve, invoke, builtin, hs, hx, hrun, Result.andThen]
    exact h v w (by rw [List.append_nil]; exact hown) ⟨rfl, rfl, rfl, Nat.le_refl _, fun _ _ _ => rfl⟩ (.inl rfl)
  | some ad =>
    obtain ⟨v', w', hr, h2, h3, -, h5⟩ := run_append_own_at (P := Try.prog) w B t o.type e i0 (.int .i64 0) 1 8 hu hi hz0 hz1 hz2 rfl (by decide) v n (xs.map (Value.int .i64)) hown ad m c (zs.map (Value.int .i64)) (by rw [List.length_map, hG.1, Nat.mul_one]) (by
      intro j u hj
      rw [List.getElem?_map] at hj
      obtain ⟨q, hq, rfl⟩ := Option.map_eq_some_iff.1 hj
      have hjl : j < zs.length := (List.getElem?_eq_some_iff.1 hq).1
      rcases hG.2.2.2 with h4 | ⟨b, off, ha, hc⟩
      · have := hG.1; omega
      · cases ha
        rw [Go.WideShapes.add_plain, hc j (by rw [← hG.1]; exact hjl)]
        simp [List.getD, hq]) (by intro u hu; obtain ⟨q, _, rfl⟩ := List.mem_map.1 hu; rfl) (by unfold maxLen; omega) (by omega) hbase
    unfold Oper.wp execOp
    simp only [ho, resolve, invoke, builtin, Sem.run_bind, Sem.run_pure, Result.andThen_ok, List.map_toArray, List.map_cons, List.map_nil, hs, hx, hr]
    exact h v' w' (by rw [List.map_append]; exact h2) h3 h5

/-- A row of one's own that holds integers. -/
def IntRow (w : World) (B : Nat) (v : Value) (n : Nat) : Prop := ∃ zs : List Int, w.ownsRow B 22 1 v n (zs.map (Value.int .i64))
theorem IntRow.store {w : World} {B : Nat} {v : Value} {n : Nat} (h : IntRow w B v n) (g j : Nat) (z : Int) : IntRow (w.setCell ⟨g, j, none⟩ (.int .i64 z)) B v n := by
  obtain ⟨zs, ho⟩ := h
  by_cases hv : v.ownBlock = some g
  · rcases ho.2 with h2 | ⟨g', cap, cur, rfl, hbg, hg', rest⟩
    · exact ⟨zs, ho.1, .inl h2⟩
    · cases hv
      obtain ⟨o1, -⟩ := ho.stored j (.int .i64 z)
      exact ⟨zs.set j z, by rw [List.map_set]; exact o1⟩
  · exact ⟨zs, row_apart ho (fun q hq e => hv (by rw [hq, e]))⟩
theorem IntRow.cell {w : World} {B g n c : Nat} (h : IntRow w B (.slice (some ⟨g, 0, none⟩) n c) n) {j : Nat} (hj : j < n) : ∃ x, w.cell? ⟨g, j, none⟩ = some (.int .i64 x) ∧ w.frozen? ⟨g, j, none⟩ = false := by
  obtain ⟨zs, ho⟩ := h
  have hl : zs.length = n := by have := ho.1; simpa using this
  refine ⟨zs.getD j 0, ?_, ho.frozenAt j⟩
  rw [ho.cellAt j (by omega), List.getElem?_map]
  simp [List.getD, List.getElem?_eq_getElem (show j < zs.length by omega)]
theorem IntRow.form {w : World} {B n c : Nat} {A : Option Addr} (h : IntRow w B (.slice A n c) n) (hn : 0 < n) : ∃ g, A = some ⟨g, 0, none⟩ ∧ B ≤ g ∧ g < w.heap.size := by
  obtain ⟨zs, ho⟩ := h
  obtain ⟨g, c', hv⟩ := Joins.ownsRow_form ho hn
  simp only [Value.slice.injEq] at hv
  obtain ⟨rfl, -, rfl⟩ := hv
  exact ⟨g, rfl, ho.lt g rfl⟩
theorem IntRow.kept {w w' : World} {B : Nat} {v : Value} {n : Nat} (h : IntRow w B v n) (hb : Below w.heap.size w w') : IntRow w' B v n := by
  obtain ⟨zs, ho⟩ := h
  exact ⟨zs, row_kept ho hb⟩

/-- The builtin append of tensors to a row of one's own, with the place of what comes back. -/
theorem wp_append_gs_at {w : World} {o : Oper} {a : Act} {K : Act → World → Prop} {Q : Exit → Act → World → Prop} (s x : Operand)
    (ho : o.op = .call { callee := .builtin .append, args := #[s, x], argTypes := #[23, 23] })
    (B : Nat) (v : Value) (n : Nat) (us : List TV) (hs : a.eval s = v) (hown : w.ownsRow B 30 2 v n (gcells us))
    (av : Option Addr) (m c : Nat) (ts : List TV) (hx : a.eval x = .slice av m c) (hG : GsAt w av m ts) (hn : av = none → m = 0 ∧ c = 0) (hb : n + m ≤ 2932031007402) (hbase : B ≤ w.heap.size)
    (h : ∀ v' w', w'.ownsRow B 30 2 v' (n + m) (gcells (us ++ ts)) → w.grownBy w' v.ownBlock → (v'.ownBlock = v.ownBlock ∨ v'.ownBlock = some w.heap.size) → K (a.put o.dst v') w') : o.wp Try.prog a w K Q := by
  obtain ⟨i0, hi, hz0, hz1, hz2⟩ := info_parts gridInfo
  cases av with
  | none =>
    obtain ⟨rfl, rfl⟩ := hn rfl
    have e1 : ts = [] := List.length_eq_zero_iff.1 hG.1
    subst e1
    have hrun := run_append_owned_none (P := Try.prog) (w := w) B 23 o.type 30 i0 2 Try.underlying23 hi v n (gcells us) hown
    unfold Oper.wp
    simp [execOp, ho, resolve, invoke, builtin, hs, hx, hrun, Result.andThen]
    exact h v w (by rw [List.append_nil]; exact hown) ⟨rfl, rfl, rfl, Nat.le_refl _, fun _ _ _ => rfl⟩ (.inl rfl)
  | some ad =>
    have R := run_append_own_at (P := Try.prog) w B 23 o.type 30 i0 (.agg #[.slice none 0 0, .slice none 0 0]) 2 48 Try.underlying23 hi hz0 hz1 hz2 rfl (by decide) v n (gcells us) hown ad m c (gcells ts) (by rw [gcells_length, hG.1]) ?_ ?_ (by unfold maxLen; omega) (by omega) hbase
    rotate_left
    · intro j u hj
      have hjl : j < ts.length * 2 := by rw [← gcells_length]; exact (List.getElem?_eq_some_iff.1 hj).1
      rcases hG.2.2.2 with h4 | ⟨b, off, ha, hc⟩
      · have := hG.1; omega
      · cases ha
        obtain ⟨t, ht⟩ : ∃ t, ts[j / 2]? = some t := ⟨_, List.getElem?_eq_getElem (by omega)⟩
        obtain ⟨e1, e2⟩ := gcells_get ht
        obtain ⟨k1, k2⟩ := hc _ _ ht
        rw [add_plain]
        have : j = j / 2 * 2 ∨ j = j / 2 * 2 + 1 := by omega
        rcases this with e | e
        · rw [e] at hj ⊢
          rw [e1] at hj
          cases hj
          exact k1
        · rw [e] at hj ⊢
          rw [e2] at hj
          cases hj
          rw [← Nat.add_assoc]
          exact k2
    · intro u hu
      have : ∀ (l : List TV), u ∈ gcells l → u.oneCell' = true := by
        intro l
        induction l with
        | nil => intro h; cases h
        | cons t r ih =>
          intro h
          simp only [gcells, List.mem_cons] at h
          rcases h with rfl | rfl | h
          · rfl
          · rfl
          · exact ih h
      exact this ts hu
    obtain ⟨v', w', hr, h2, h3, -, h5⟩ := R
    unfold Oper.wp execOp
    simp only [ho, resolve, invoke, builtin, Sem.run_bind, Sem.run_pure, Result.andThen_ok, List.map_toArray, List.map_cons, List.map_nil, hs, hx, hr]
    exact h v' w' (by rw [gcells_append]; exact h2) h3 h5

theorem row_form {w : World} {B : Nat} {e : TypeId} {k : Nat} {v : Value} {n : Nat} {xs : List Value} (h : w.ownsRow B e k v n xs) : ∃ A c, v = .slice A n c := by
  rcases h.2 with ⟨rfl, rfl⟩ | ⟨g, cap, cur, rfl, -⟩
  · exact ⟨none, 0, rfl⟩
  · exact ⟨_, _, rfl⟩

/-- The copies so far: the rows of the first tensors, in rows of one's own. -/
def WasOK (wc : World) (ts : List TV) (j : Nat) (v : Value) (wr : World) : Prop :=
  ∃ ws : List TV, ws.length = j ∧ (∀ (q : Nat) t u, ts[q]? = some t → ws[q]? = some u → u.ss = t.ss ∧ u.cs = t.cs ∧ u.sl = t.sl ∧ u.cl = t.cl) ∧ wr.ownsRow wc.heap.size 30 2 v j (gcells ws) ∧
    (∀ u ∈ ws, OwnV wr wc.heap.size u) ∧ (∀ u ∈ ws, ∀ q ∈ tblocks u, v.ownBlock ≠ some q)
theorem was_none (wc : World) (ts : List TV) : WasOK wc ts 0 (.slice none 0 0) wc :=
  ⟨[], rfl, (fun q t u _ h => by simp at h), World.ownsRow_nil _ _ _ _, (fun u hu => (List.not_mem_nil hu).elim), (fun u hu => (List.not_mem_nil hu).elim)⟩
theorem was_add {wc wr x w' : World} {ts ws : List TV} {j : Nat} {v v' : Value} {t e : TV} (h1 : ws.length = j) (h2 : ∀ (q : Nat) t u, ts[q]? = some t → ws[q]? = some u → u.ss = t.ss ∧ u.cs = t.cs ∧ u.sl = t.sl ∧ u.cl = t.cl)
    (h3 : wr.ownsRow wc.heap.size 30 2 v j (gcells ws)) (h4 : ∀ u ∈ ws, OwnV wr wc.heap.size u) (h5 : ∀ u ∈ ws, ∀ q ∈ tblocks u, v.ownBlock ≠ some q) (hwc : wc.heap.size ≤ wr.heap.size) (hb : Below wr.heap.size wr x)
    (he : OwnV x wr.heap.size e) (ht : ts[j]? = some t) (hee : e.ss = t.ss ∧ e.cs = t.cs ∧ e.sl = t.sl ∧ e.cl = t.cl) (o : w'.ownsRow wc.heap.size 30 2 v' (j + 1) (gcells (ws ++ [e]))) (g : x.grownBy w' v.ownBlock)
    (loc : v'.ownBlock = v.ownBlock ∨ v'.ownBlock = some x.heap.size) : WasOK wc ts (j + 1) v' w' := by
  have hv : ∀ q, v.ownBlock = some q → q < wr.heap.size := fun q hq => (h3.lt q hq).2
  have ne : ∀ q ∈ tblocks e, v.ownBlock ≠ some q := fun q hq h => by have := (he.lt hq).1; have := hv q h; omega
  refine ⟨ws ++ [e], by rw [List.length_append, h1]; rfl, ?_, o, ?_, ?_⟩
  · intro q t' u hq hu
    by_cases hlt : q < ws.length
    · rw [List.getElem?_append_left hlt] at hu
      exact h2 q t' u hq hu
    · have hq1 : q < (ws ++ [e]).length := (List.getElem?_eq_some_iff.1 hu).1
      rw [List.length_append, List.length_singleton] at hq1
      obtain rfl : q = j := by omega
      rw [ht] at hq
      cases hq
      rw [List.getElem?_append_right (by omega), h1, Nat.sub_self] at hu
      cases hu
      exact hee
  · intro u hu
    rcases List.mem_append.1 hu with hu | hu
    · have k := (h4 u hu).kept hb
      exact ⟨grown_row k.1 g (fun q hq e' => h5 u hu q (tblocks_mem.2 (.inl (by cases hs : u.sa with
        | none => rw [hs] at hq; cases hq
        | some p => rw [hs] at hq; cases hq; exact ⟨p, rfl, rfl⟩))) e'.symm), grown_row k.2 g (fun q hq e' => h5 u hu q (tblocks_mem.2 (.inr (by cases hs : u.ca with
        | none => rw [hs] at hq; cases hq
        | some p => rw [hs] at hq; cases hq; exact ⟨p, rfl, rfl⟩))) e'.symm)⟩
    · rw [List.mem_singleton] at hu
      subst hu
      have k := he.le hwc
      exact ⟨grown_row k.1 g (fun q hq e' => ne q (tblocks_mem.2 (.inl (by cases hs : u.sa with
        | none => rw [hs] at hq; cases hq
        | some p => rw [hs] at hq; cases hq; exact ⟨p, rfl, rfl⟩))) e'.symm), grown_row k.2 g (fun q hq e' => ne q (tblocks_mem.2 (.inr (by cases hs : u.ca with
        | none => rw [hs] at hq; cases hq
        | some p => rw [hs] at hq; cases hq; exact ⟨p, rfl, rfl⟩))) e'.symm)⟩
  · intro u hu q hq
    have hlt : q < x.heap.size := by
      rcases List.mem_append.1 hu with hu | hu
      · exact Nat.lt_of_lt_of_le ((h4 u hu).lt hq).2 hb.size
      · rw [List.mem_singleton] at hu; subst hu; exact (he.lt hq).2
    rcases loc with e' | e' <;> rw [e']
    · rcases List.mem_append.1 hu with hu | hu
      · exact h5 u hu q hq
      · rw [List.mem_singleton] at hu; subst hu; exact ne q hq
    · intro h
      have := Option.some.inj h
      omega

/-- What goes, whatever it is: its cells are a row of one's own. -/
theorem pgo_res (kind k : Int) (a : Option Addr) (len cap : Nat) (ts : List TV) (w : World) (h : GsAt w a len ts) (hs : ∀ t ∈ ts, t.cl ≤ 1000) (hk1 : -9223372036854775808 ≤ k) (hk2 : k ≤ 9223372036854775807) :
    Calls Try.prog 9 #[.int .i64 kind, .int .i64 k, .slice a len cap] w fun e w' => ∃ A n c A' n' c' x, e = .returned (.tuple #[.agg #[.slice A n c, .slice A' n' c'], .int .i64 x]) ∧ IntRow w' w.heap.size (.slice A' n' c') n' ∧ n' ≤ 1000 ∧ Below w.heap.size w w' := by
  by_cases hE : faultE kind ts = 0
  · obtain ⟨g1, g2, g3⟩ := fault_good hE
    have h0 : 0 < ts.length := by
      rcases insN_cases kind with ⟨e, -⟩ | ⟨e, -⟩ | ⟨e, -⟩ <;> omega
    refine (pgo_ok kind k a len cap ts w h hE ts[0] (List.getElem?_eq_getElem h0) (hs _ (List.getElem_mem _)) hk1 hk2).mono ?_
    rintro e w' ⟨v, rfl, A, c, A', c', rfl, o1, o2, -, hb⟩
    exact ⟨A, _, c, A', _, c', 0, rfl, ⟨_, o2⟩, hs _ (List.getElem_mem _), hb⟩
  · refine (pgo_no kind k a len cap ts w h hE).mono ?_
    rintro e w' ⟨rfl, hb⟩
    exact ⟨none, 0, 0, none, 0, 0, _, rfl, ⟨[], World.ownsRow_nil _ _ _ _⟩, by omega, hb⟩
/-- The gradients: a slice of tensors whose cells are rows of one's own. -/
def LOK (M n : Nat) (us : List TV) (w : World) : Prop := w.ownsRow M 30 2 (.slice (some ⟨M, 0, none⟩) n n) n (gcells us) ∧ ∀ u ∈ us, IntRow w (M + 1) (.slice u.ca u.cl u.cc) u.cl ∧ u.cl ≤ 1000
theorem LOK.at {M n : Nat} {us : List TV} {w : World} (h : LOK M n us w) {j : Nat} (hj : j < n) : ∃ u, u ∈ us ∧ w.cell? ⟨M, j * 2 + 1, none⟩ = some (.slice u.ca u.cl u.cc) := by
  have hl : us.length = n := by have := h.1.1; rw [gcells_length] at this; omega
  have hu : us[j]? = some (us[j]'(by omega)) := List.getElem?_eq_getElem (by omega)
  refine ⟨_, List.mem_of_getElem? hu, ?_⟩
  rw [h.1.cellAt (j * 2 + 1) (by omega)]
  exact (gcells_get hu).2
theorem LOK.at2 {M n : Nat} {us : List TV} {w : World} (h : LOK M n us w) {j : Nat} {u : TV} (hu : us[j]? = some u) : w.cell? ⟨M, j * 2 + 1, none⟩ = some (.slice u.ca u.cl u.cc) := by
  have hl : us.length = n := by have := h.1.1; rw [gcells_length] at this; omega
  have : j < us.length := (List.getElem?_eq_some_iff.1 hu).1
  rw [h.1.cellAt (j * 2 + 1) (by omega)]
  exact (gcells_get hu).2
theorem LOK.len {M n : Nat} {us : List TV} {w : World} (h : LOK M n us w) : us.length = n := by have := h.1.1; rw [gcells_length] at this; omega
theorem LOK.other {M n : Nat} {us : List TV} {w : World} (h : LOK M n us w) {g : Nat} (hg : M ≠ g) (j : Nat) (z : Int) : LOK M n us (w.setCell ⟨g, j, none⟩ (.int .i64 z)) :=
  ⟨row_apart h.1 (fun q hq => by cases hq; exact hg), fun u hu => ⟨(h.2 u hu).1.store g j z, (h.2 u hu).2⟩⟩
theorem LOK.store {M n : Nat} {us : List TV} {w : World} (h : LOK M n us w) {g : Nat} (hg : M < g) (j : Nat) (z : Int) : LOK M n us (w.setCell ⟨g, j, none⟩ (.int .i64 z)) :=
  ⟨row_apart h.1 (fun q hq => by cases hq; show M ≠ g; omega), fun u hu => ⟨(h.2 u hu).1.store g j z, (h.2 u hu).2⟩⟩
theorem pback_res (kind k : Int) (G : TV) (a : Option Addr) (len cap : Nat) (ts : List TV) (w : World) (h : GsAt w a len ts) (hG : G.At w) (hcl : G.cl ≤ 1000) (hk1 : -9223372036854775808 ≤ k) (hk2 : k ≤ 9223372036854775807) :
    Calls Try.prog 14 #[.int .i64 kind, .int .i64 k, .agg #[.slice G.sa G.sl G.sc, .slice G.ca G.cl G.cc], .slice a len cap] w fun e w' => ∃ A n us x, e = .returned (.tuple #[.slice A n n, .int .i64 x]) ∧ n ≤ 2 ∧ (n = 0 ∨ ∃ M, A = some ⟨M, 0, none⟩ ∧ w.heap.size ≤ M ∧ LOK M n us w') ∧ Below w.heap.size w w' := by
  by_cases hE : faultE kind ts = 0
  · obtain ⟨g1, g2, g3⟩ := fault_good hE
    have h0 : 0 < ts.length := by
      rcases insN_cases kind with ⟨e, -⟩ | ⟨e, -⟩ | ⟨e, -⟩ <;> omega
    cases hb0 : (rightT G.ss G.cl && sameL G.ss (ts[0]).ss)
    · refine (pback_no2 kind k G a len cap ts w h hG hE ts[0] (List.getElem?_eq_getElem h0) hb0).mono ?_
      rintro e w' ⟨rfl, hb⟩
      exact ⟨none, 0, [], _, rfl, by omega, .inl rfl, hb⟩
    · have hb1 : rightT G.ss G.cl = true ∧ sameL G.ss (ts[0]).ss = true := by simpa using hb0
      refine (pback_ok kind k G a len cap ts w h hG hE ts[0] (List.getElem?_eq_getElem h0) hb1.1 hb1.2 hcl hk1 hk2).mono ?_
      rintro e w' ⟨M, n, us, rfl, hus, hl, hall, hM, hrow, hmany, hb⟩
      have hn : n ≤ 2 := by
        have e1 := congrArg List.length hus
        rw [List.length_map, hl] at e1
        unfold backR at e1
        split at e1 <;> simp at e1 <;> omega
      refine ⟨some ⟨M, 0, none⟩, n, us, 0, rfl, hn, .inr ⟨M, rfl, hM, hrow, fun u hu => ⟨⟨u.cs, (hmany.own u hu).2⟩, ?_⟩⟩, hb⟩
      rw [(hall u hu).2.2]
      exact hcl
  · refine (pback_no1 kind k G a len cap ts w h hE).mono ?_
    rintro e w' ⟨rfl, hb⟩
    exact ⟨none, 0, [], _, rfl, by omega, .inl rfl, hb⟩

set_option maxHeartbeats 2000000 in
theorem lsame5_any (a b : TV) (w : World) (ha : a.At w) (hb : b.At w) (e1 : a.ss = b.ss) (e2 : a.cs = b.cs) (hl : a.cl ≤ 1000) :
    Calls Try.prog 18 #[.agg #[.slice a.sa a.sl a.sc, .slice a.ca a.cl a.cc], .agg #[.slice b.sa b.sl b.sc, .slice b.ca b.cl b.cc]] w fun e w' => e = .returned (.bool true) ∧ Below w.heap.size w w' := by
  obtain ⟨wA, hwA, J1, z1, n1⟩ := grid_box w (.slice a.sa a.sl a.sc) (.slice a.ca a.cl a.cc)
  obtain ⟨wB, hwB, J2, z2, -⟩ := grid_box wA (.slice b.sa b.sl b.sc) (.slice b.ca b.cl b.cc)
  rw [n1.out] at J2
  have z := Lib.hid (z1.out.trans (z2.out.mono z1.out.size))
  have J1' := Lib.hid (J1.out.kept z2.out)
  have hlen : b.cl = a.cl := by rw [← ha.2.1.1, ← hb.2.1.1, e2]
  have SM := same_any a.sa a.sl a.sc a.ss b.sa b.sl b.sc b.ss wB (ha.1.kept z.out) (hb.1.kept z.out)
  rw [e1, sameL_refl5] at SM
  have SM' := Lib.hid SM
  have HA := Lib.hid (ha.2.1.kept z.out)
  have HB := Lib.hid (hb.2.1.kept z.out)
  rw [e2] at HA
  rw [hlen] at HB J2 hwB
  clear ha hb J1 SM e1 e2
  obtain ⟨i0, i1, -, -⟩ := J1'.out.see
  obtain ⟨k0, k1, -, -⟩ := J2.out.see
  obtain ⟨y, hy⟩ : ∃ y, a.cl = y := ⟨_, rfl⟩
  rw [hy] at HA HB i1 k1 hl hwA hwB
  rw [hlen, hy]
  clear hlen hy
  go_enter Try.func18, Try.ntmps18
  go_upto_region 1 with (fail)
  rw [hwA.out, hwB.out]
  go_wp2_with fail
  refine SM'.out.mono ?_
  rintro e w1 ⟨rfl, m, rfl⟩
  go_wp2_with fail
  go_loopw [24] (fun i wr => ∃ j : Nat, j ≤ y ∧ i = .int .i64 j ∧ Hid (∃ m, wr = wB.drewN m)) (fun i _ => y - (intOf i).toNat)
  case atStart => exact ⟨0, Nat.zero_le _, rfl, Lib.hid ⟨m, rfl⟩⟩
  case round =>
    obtain ⟨j, hj, rfl, hw⟩ := hrel
    obtain ⟨m', hm⟩ := hw.out
    have kW : Below wB.heap.size wB wr := by rw [hm]; exact below_drewN' (Below.refl _ _) m'
    have kW' := Lib.hid kW
    have f1 : wr.cell? ⟨w.heap.size, 1, none⟩ = some (.slice a.ca y a.cc) := cell_later kW i1
    have f2 : wr.cell? ⟨w.heap.size + 1, 1, none⟩ = some (.slice b.ca y b.cc) := cell_later kW k1
    by_cases hlt : j < y
    · obtain ⟨b1, o1, q1, e1⟩ : ∃ b1 off, a.ca = some ⟨b1, off, none⟩ ∧ wr.cell? ⟨b1, off + j, none⟩ = some (.int .i64 (b.cs.getD j 0)) := by
        rcases (HA.out.kept kW).2.2.2 with h4 | ⟨b1, off, ha, hcc⟩
        · omega
        · exact ⟨b1, off, ha, hcc j hlt⟩
      obtain ⟨b2, o2, q2, e2⟩ : ∃ b1 off, b.ca = some ⟨b1, off, none⟩ ∧ wr.cell? ⟨b1, off + j, none⟩ = some (.int .i64 (b.cs.getD j 0)) := by
        rcases (HB.out.kept kW).2.2.2 with h4 | ⟨b1, off, ha, hcc⟩
        · omega
        · exact ⟨b1, off, ha, hcc j hlt⟩
      rw [q1] at f1
      rw [q2] at f2
      have hm' := Lib.hid hm
      obtain ⟨x, hx⟩ : ∃ x, b.cs.getD j 0 = x := ⟨_, rfl⟩
      rw [hx] at e1 e2
      clear hm hw kW q1 q2 hx i0 i1 k0 k1
      go_wp2_with fail
      go_quiet (fail)
      go_wp2_with fail
      go_roundw
      case rel => exact ⟨j + 1, by omega, by go_num, Lib.hid ⟨m' + nq, by rw [hm'.out, World.drewN_drewN]⟩⟩
      case measure => (simp [intOf]; try omega)
    · have hm' := Lib.hid hm
      clear hm hw kW
      go_wp2_with fail
      go_ret
      exact ⟨rfl, z.out.trans (kW'.out.mono z.out.size)⟩
end Go.Proofs.Ytilocmdanjekhaa
