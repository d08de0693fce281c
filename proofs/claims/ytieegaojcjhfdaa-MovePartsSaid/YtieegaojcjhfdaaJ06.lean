import Derived.Test.YtieegaojcjhfdaaJ05
import Derived.Deep.RegionHeld3
/-
  Contracts of the statements' file of layer 9: small, right; its arguments opened.
-/
namespace Go.Proofs.Ytieegaojcjhfdaa
open Go.RowKit Go.ChangeShapes Go.WideShapes Go.Deep
set_option linter.unusedVariables false
set_option linter.unusedSimpArgs false

/-- What tensors weigh: each one, its sides, its cells. -/
def wtsM (ts : List TV) : Nat := (ts.map fun t => 1 + t.sl + t.cl).sum
theorem wtsM_take {ts : List TV} {k : Nat} {t : TV} (h : ts[k]? = some t) : wtsM (ts.take (k + 1)) = wtsM (ts.take k) + (1 + t.sl + t.cl) := by
  unfold wtsM; rw [List.take_add_one, h]; simp
theorem wtsM_part (ts : List TV) (k : Nat) : wtsM (ts.take k) ≤ wtsM ts := by
  have h : wtsM (ts.take k ++ ts.drop k) = wtsM (ts.take k) + wtsM (ts.drop k) := by unfold wtsM; rw [List.map_append, List.sum_append]
  rw [List.take_append_drop] at h
  omega
theorem wtsM_mem {ts : List TV} {t : TV} (h : t ∈ ts) : 1 + t.sl + t.cl ≤ wtsM ts := by
  unfold wtsM
  induction ts with
  | nil => cases h
  | cons x r ih =>
    rw [List.map_cons, List.sum_cons]
    rcases List.mem_cons.1 h with rfl | h
    · omega
    · have := ih h; omega
theorem wtsM_len (ts : List TV) : ts.length ≤ wtsM ts := by
  induction ts with
  | nil => simp [wtsM]
  | cons x r ih => unfold wtsM at ih ⊢; rw [List.map_cons, List.sum_cons, List.length_cons]; omega
/-- May tensors be gone through? -/
def small9 (ts : List TV) : Bool := decide (wtsM ts ≤ 900)
set_option maxHeartbeats 1000000 in
theorem small9_any (a : Option Addr) (len cap : Nat) (ts : List TV) (w : World) (h : GsAt w a len ts) :
    Calls Try.prog 8 #[.slice a len cap] w fun e w' => e = .returned (.bool (small9 ts)) ∧ Below w.heap.size w w' := by
  have hl := h.2.1
  have hts := Lib.hid h.1
  have H := Lib.hid (fun w1 (hb : Below w.heap.size w w1) k (hk : k < len) => (h.kept hb).at hk)
  clear h
  go_enter Try.func8, Try.ntmps8
  go_wp2_with fail
  go_loopw [3, 8] (fun n i wr => ∃ k S : Nat, k ≤ len ∧ i = .int .i64 k ∧ n = .int .i64 S ∧ S ≤ 900 ∧ Hid (S = wtsM (ts.take k)) ∧ Hid (Below w.heap.size w wr)) (fun _ i _ => len - (intOf i).toNat)
  case atStart => exact ⟨0, 0, Nat.zero_le _, rfl, rfl, by omega, Lib.hid (by simp [wtsM]), Lib.hid (Below.refl _ _)⟩
  case round =>
    obtain ⟨k, S, hk, rfl, rfl, hS, hsum, hbr⟩ := hrel
    by_cases hlt : k < len
    · obtain ⟨t, b, off, ht, rfl, c0, c1, hAt⟩ := H.out wr hbr.out k hlt
      obtain ⟨wB, hwB, J, z, n1⟩ := grid_box wr (.slice t.sa t.sl t.sc) (.slice t.ca t.cl t.cc)
      obtain ⟨j0, j1, -, -⟩ := J.out.see
      obtain ⟨x, hx⟩ : ∃ x, t.sl = x := ⟨_, rfl⟩
      obtain ⟨y, hy⟩ : ∃ y, t.cl = y := ⟨_, rfl⟩
      have l1 := hAt.2.2.1
      have l2 := hAt.2.2.2
      have st := Lib.hid (wtsM_take ht)
      rw [hx] at c0 j0 l1 st hwB
      rw [hy] at c1 j1 l2 st hwB
      have hb2 := Lib.hid (hbr.out.trans (z.out.mono hbr.out.size))
      clear hx hy hAt
      by_cases q : (S : Int) + (1 + (x : Int) + (y : Int)) ≤ 900
      · have st' := Lib.hid (show S + (1 + x + y) = wtsM (ts.take (k + 1)) by rw [st.out, ← hsum.out])
        have q' : S + (1 + x + y) ≤ 900 := by omega
        go_upto_region 5 with (fail)
        rw [hwB.out]
        go_wp2_with fail
        go_roundw
        case rel => exact ⟨k + 1, S + (1 + x + y), by omega, by go_num, by go_num, q', st', hb2⟩
        case measure => (simp [intOf]; try omega)
      · have E : Hid (false = small9 ts) := Lib.hid (by
          have := wtsM_part ts (k + 1)
          rw [st.out, ← hsum.out] at this
          unfold small9
          rw [decide_eq_false (by omega)])
        go_upto_region 5 with (fail)
        rw [hwB.out]
        go_wp2_with fail
        go_ret
        exact ⟨ret_bool E.out, hb2.out⟩
    · obtain rfl : k = len := by omega
      have E : Hid (true = small9 ts) := Lib.hid (by
        have := hsum.out
        rw [List.take_of_length_le (by rw [hts.out]; omega)] at this
        unfold small9
        rw [decide_eq_true (by omega)])
      go_wp2_with fail
      go_ret
      exact ⟨ret_bool E.out, hbr.out⟩
set_option maxHeartbeats 1000000 in
theorem right9_any (sa : Option Addr) (sl sc : Nat) (ss : List Int) (ca : Option Addr) (cl cc : Nat) (w : World) (h : IntsAt w sa sl ss) (hl : cl ≤ 9223372036854775807) :
    Calls Try.prog 11 #[.agg #[.slice sa sl sc, .slice ca cl cc]] w fun e w' => e = .returned (.bool (rightT ss cl)) ∧ Below w.heap.size w w' := by
  obtain ⟨wA, hwA, J1, z1, n1⟩ := grid_box w (.slice sa sl sc) (.slice ca cl cc)
  obtain ⟨j0, j1, -, -⟩ := J1.out.see
  have hd := fun n => (h.kept z1.out).kept (below_drewN' (Below.refl _ _) n)
  have C := fun n => flipW (refshape_any sa sl sc ss (wA.drewN n) (hd n))
  have D := fun hr n => flipW (refsize_any sa sl sc ss (wA.drewN n) (hd n) hr)
  clear h hd
  cases b : rightS ss
  · rw [b] at C
    have C1 := Lib.hid C
    have E := Lib.hid (rightT_no (n := cl) b)
    clear C b D
    go_enter Try.func11, Try.ntmps11
    go_upto_region 1 with (fail)
    rw [hwA.out]
    go_quiet ((go_at_call 21; exact Calls.quiet_of_same (C1.out _)))
    go_wp2_with fail
    go_ret
    exact ⟨ret_bool E.out, below_drewN' z1.out _⟩
  · rw [b] at C
    have C1 := Lib.hid C
    have D1 := D b
    have E1 := Lib.hid (fun h => rightT_yes (n := cl) b h)
    have E2 := Lib.hid (fun h => rightT_len (ss := ss) (n := cl) h)
    clear C b D
    obtain ⟨x, hx⟩ : ∃ x, prodI ss = x := ⟨_, rfl⟩
    rw [hx] at D1 E1 E2
    have D2 := Lib.hid D1
    clear hx D1
    have E : Hid (((cl : Int) == x) = rightT ss cl) := Lib.hid (by
      by_cases c : (cl : Int) = x
      · rw [← E1.out c]; simp [c]
      · rw [← E2.out c]; simp [c])
    clear E1 E2
    go_enter Try.func11, Try.ntmps11
    go_upto_region 1 with (fail)
    rw [hwA.out]
    go_quiet ((first | (go_at_call 21; exact Calls.quiet_of_same (C1.out _)) | (go_at_call 22; exact Calls.quiet_of_same (D2.out _))))
    go_wp2_with fail
    go_ret
    exact ⟨ret_bool E.out, below_drewN' z1.out _⟩
theorem small9_le {ts : List TV} (h : small9 ts = true) : wtsM ts ≤ 900 := by simpa [small9] using h
theorem wtsM_cl (ts : List TV) : (ts.map fun t => t.cl).sum ≤ wtsM ts := by
  unfold wtsM
  induction ts with
  | nil => simp
  | cons t l ih => rw [List.map_cons, List.sum_cons, List.map_cons, List.sum_cons]; omega

/-- New slices of one and of two tensors. -/
theorem gsl_made1 (W : World) (t : TV) (h : Good t W) :
    ∃ W2, Hid (W.alloc (.cells #[.slice t.sa t.sl t.sc, .slice t.ca t.cl t.cc] 29) = W2) ∧ Hid (Gsl W2 (some ⟨W.heap.size, 0, none⟩) 1 1 [t]) ∧ Hid (Below W.heap.size W W2) := by
  have hb : Below W.heap.size W (W.alloc (.cells #[.slice t.sa t.sl t.sc, .slice t.ca t.cl t.cc] 29)) := (Below.refl _ _).alloc (Nat.le_refl _) _
  refine ⟨_, Lib.hid rfl, Lib.hid ⟨⟨rfl, by omega, ?_, .inr ⟨W.heap.size, 0, rfl, ?_⟩⟩, ?_, by omega, by omega⟩, Lib.hid hb⟩
  · intro u hu
    rw [List.mem_singleton] at hu
    subst hu
    exact (h.kept hb).1
  · intro j u hj
    match j, hj with
    | 0, hj =>
      simp at hj
      subst hj
      rw [World.cell?_alloc_new, World.cell?_alloc_new]
      exact ⟨rfl, rfl⟩
  · intro u hu
    rw [List.mem_singleton] at hu
    subst hu
    exact h.2
theorem gsl_made2 (W : World) (t u : TV) (h : Good t W) (h' : Good u W) :
    ∃ W2, Hid (W.alloc (.cells #[.slice t.sa t.sl t.sc, .slice t.ca t.cl t.cc, .slice u.sa u.sl u.sc, .slice u.ca u.cl u.cc] 29) = W2) ∧ Hid (Gsl W2 (some ⟨W.heap.size, 0, none⟩) 2 2 [t, u]) ∧ Hid (Below W.heap.size W W2) := by
  have hb : Below W.heap.size W (W.alloc (.cells #[.slice t.sa t.sl t.sc, .slice t.ca t.cl t.cc, .slice u.sa u.sl u.sc, .slice u.ca u.cl u.cc] 29)) := (Below.refl _ _).alloc (Nat.le_refl _) _
  refine ⟨_, Lib.hid rfl, Lib.hid ⟨⟨rfl, by omega, ?_, .inr ⟨W.heap.size, 0, rfl, ?_⟩⟩, ?_, by omega, by omega⟩, Lib.hid hb⟩
  · intro v hv
    simp only [List.mem_cons, List.not_mem_nil, or_false] at hv
    rcases hv with rfl | rfl
    · exact (h.kept hb).1
    · exact (h'.kept hb).1
  · intro j v hj
    match j, hj with
    | 0, hj =>
      simp at hj
      subst hj
      rw [World.cell?_alloc_new, World.cell?_alloc_new]
      exact ⟨rfl, rfl⟩
    | 1, hj =>
      simp at hj
      subst hj
      rw [World.cell?_alloc_new, World.cell?_alloc_new]
      exact ⟨rfl, rfl⟩
  · intro v hv
    simp only [List.mem_cons, List.not_mem_nil, or_false] at hv
    rcases hv with rfl | rfl
    · exact h.2
    · exact h'.2
/-- A new tensor whose shape and cells are known. -/
theorem tres_open {w w' : World} {x : Int} {ss cs : List Int} {e : Ending} {n m : Nat} (h : TRes w (x, (ss, cs)) e w') (h1 : ss.length = n) (h2 : cs.length = m) :
    ∃ A c A' c', e = .returned (.tuple #[.agg #[.slice A n c, .slice A' m c'], .int .i64 x]) ∧ Good ⟨A, n, c, ss, A', m, c', cs⟩ w' ∧ Below w.heap.size w w' := by
  obtain ⟨⟨A, sl, c, s, A', cl, c', d⟩, rfl, hp, hG, -, hb⟩ := h
  simp only [pr, Prod.mk.injEq] at hp
  obtain ⟨rfl, rfl⟩ := hp
  obtain rfl : s.length = sl := hG.slen
  obtain rfl : d.length = cl := hG.len
  subst h1 h2
  exact ⟨A, c, A', c', rfl, hG, hb⟩
theorem row_made9 (W : World) (t : TypeId) (xs : List Int) (n : Nat) (hn : xs.length = n) (h1 : n ≤ 1000) (f1 : Fits xs) :
    ∃ W2, Hid (W.alloc (.cells (xs.map (Value.int .i64)).toArray t) = W2) ∧ Hid (IntsAt W2 (some ⟨W.heap.size, 0, none⟩) n xs) ∧ Hid (Below W.heap.size W W2) :=
  ⟨_, Lib.hid rfl, Lib.hid (IntsAt.made W t xs n hn (by omega) f1), Lib.hid ((Below.refl _ _).alloc (Nat.le_refl _) _)⟩

section
variable {H : Type} {enc : TypeId × Value → H} {w : World} {base : Nat} {spare : Nat → Bool} {held : Bool}
theorem grids_cell9 {fuel : Nat} {c : Value} {x : DataW H × List MemPlace} (h : DataW.trod enc Try.prog w base spare held fuel 22 [c] = some x) (hw : ∀ n ∈ x.1.weights Try.prog 22, n ≤ reachBytes) :
    ∃ a len cap ts, c = .slice a len cap ∧ Gsl w a len cap ts := by
  rcases open_slice_pairs Try.underlying22 Try.underlying29 gcellsG rfl rfl gcellsS gcellsF h with ⟨hcs, -⟩ | ⟨a, len, cap, m, n, V0, V1, D0, D1, P0, P1, hcs, hb, hl, hm, hmm, rfl, hx⟩
  · obtain rfl := (List.cons.inj hcs).1
    exact ⟨_, _, _, _, rfl, ⟨GsAt.nil _ _, (fun t ht => (List.not_mem_nil ht).elim), Nat.le_refl _, by omega⟩⟩
  · obtain rfl := (List.cons.inj hcs).1
    have hlm : len ≤ m := by rw [hmm]; split <;> omega
    have hw1 := hw (m * 48) (by
      simp only [DataW.weights, Try.underlying22, List.mem_cons, gbytesG]
      refine .inl ?_
      simp
      omega)
    have hr : reachBytes = 140737488351232 := by decide
    rw [hr] at hw1
    have each : ∀ i, i < len → ∃ t : TV, V0 i = .slice t.sa t.sl t.sc ∧ V1 i = .slice t.ca t.cl t.cc ∧ Good t w := by
      intro i hi
      obtain ⟨-, -, g0, g1⟩ := hx i (by omega)
      have hin : ∀ n, n ∈ (DataW.agg [D0 i, D1 i]).weights Try.prog 29 → n ≤ reachBytes := fun n hn => hw n (by
        simp only [DataW.weights, Try.underlying22, List.mem_cons, List.mem_append]
        exact .inr (.inl (weightsAll_mem (List.mem_map.2 ⟨i, List.mem_range.2 hi, rfl⟩) n hn)))
      obtain ⟨t, e1, e2, e3⟩ := grid_sized3 g0 g1 (fun n hn => hin n (agg_weights (.inl hn))) (fun n hn => hin n (agg_weights (.inr hn)))
      exact ⟨t, e1, e2, e3⟩
    obtain ⟨f, hf⟩ := choose_lt each
    refine ⟨_, _, cap, (List.range len).map f, rfl, ⟨⟨by simp, by omega, ?_, ?_⟩, ?_, hl, by unfold maxLen at hm; omega⟩⟩
    · intro t ht
      obtain ⟨i, hi, rfl⟩ := List.mem_map.1 ht
      exact (hf i (List.mem_range.1 hi)).2.2.1
    · by_cases h0 : len = 0
      · exact .inl h0
      · obtain ⟨b, off, spot⟩ := a
        have hspot : spot = none := by simpa [Addr.add] using World.cell?_spot (hx 0 (by omega)).1
        subst hspot
        refine .inr ⟨b, off, rfl, fun j t hj => ?_⟩
        rw [List.getElem?_map] at hj
        obtain ⟨i, hi, rfl⟩ := Option.map_eq_some_iff.1 hj
        obtain ⟨hlt, rfl⟩ : j < len ∧ j = i := by
          obtain ⟨h1, h2⟩ := List.getElem?_eq_some_iff.1 hi
          rw [List.length_range] at h1
          rw [List.getElem_range] at h2
          exact ⟨h1, h2⟩
        obtain ⟨c0, c1, -, -⟩ := hx j (by omega)
        rw [add_plain] at c0 c1
        rw [(hf j hlt).1] at c0
        rw [(hf j hlt).2.1] at c1
        exact ⟨c0, by rw [Nat.add_assoc]; exact c1⟩
    · intro t ht
      obtain ⟨i, hi, rfl⟩ := List.mem_map.1 ht
      exact (hf i (List.mem_range.1 hi)).2.2.2
set_option maxRecDepth 100000 in
/-- .. as an argument. -/
theorem grids_open9 {r : Reach} {b0 : Nat} {v : Value} {d : DataW H} {p : List MemPlace} (hv : Value.okWide Try.prog w r b0 22 v) (h : DataW.Trod enc Try.prog w base spare held 22 v d p)
    (hw : ∀ n ∈ d.weights Try.prog 22, n ≤ reachBytes) : ∃ a len cap ts, v = .slice a len cap ∧ Gsl w a len cap ts := by
  obtain ⟨a, len, cap, rfl⟩ := okWide_slice Try.underlying22 hv
  obtain ⟨fuel, hf⟩ := h
  exact grids_cell9 (c := .slice a len cap) hf hw

theorem pcells9 : Try.prog.cellsOf 43 = 7 := by kernel_rfl
set_option maxRecDepth 100000 in
theorem part9_open {r : Reach} {b0 : Nat} {v : Value} {d : DataW H} {p : List MemPlace} (hv : Value.okWide Try.prog w r b0 43 v)
    (h : DataW.Trod enc Try.prog w base spare held 43 v d p) (hw : ∀ n ∈ d.weights Try.prog 43, n ≤ reachBytes) :
    ∃ (x g : TV) (sd fr tt : Int), v = .agg #[.slice (TV.sa x) (TV.sl x) (TV.sc x), .slice (TV.ca x) (TV.cl x) (TV.cc x), .slice (TV.sa g) (TV.sl g) (TV.sc g), .slice (TV.ca g) (TV.cl g) (TV.cc g), .int .i64 sd, .int .i64 fr, .int .i64 tt] ∧
      (Good x w ∧ Good g w) := by
  obtain ⟨⟨l⟩, rfl, hsz⟩ := okWide_struct Try.underlying43 hv
  obtain ⟨fuel, hf⟩ := h
  obtain ⟨xs, n, -, hxy, -, hxl, hat⟩ := DataW.trod_struct Try.underlying43 hf
  replace hsz : l.length = Try.prog.cellsOf 43 := hsz
  rw [pcells9] at hsz
  match l, hsz, xs, hxl with
  | [c0, c1, c2, c3, c4, c5, c6], _, [(d0, p0), (d1, p1), (d2, p2), (d3, p3), (d4, p4)], _ =>
    have ed : d = .agg [d0, d1, d2, d3, d4] := by
      have := congrArg Prod.fst hxy
      exact this
    rw [ed] at hw
    have hwe : ∀ {j : Nat} {t : TypeId} {x : DataW H}, [29, 29, 3, 3, 3][j]? = some t → [d0, d1, d2, d3, d4][j]? = some x → ∀ n ∈ x.weights Try.prog t, n ≤ reachBytes := fun ht hd n hn => hw n (by
      simp only [DataW.weights, Try.underlying43]
      exact DataW.weights_mem_each ht hd n hn)
    have h0 := hat 0 _ rfl
    have g0 : DataW.trod enc Try.prog w base spare held n 29 (([c0, c1, c2, c3, c4, c5, c6].drop 0).take (Try.prog.cellsOf 29)) = some (d0, p0) := h0
    rw [gcellsG] at g0
    replace g0 : DataW.trod enc Try.prog w base spare held n 29 [c0, c1] = some (d0, p0) := g0
    obtain ⟨t0, e0a, e0b, A0, C0, S0⟩ := grid_one3 g0 (hwe (j := 0) rfl rfl)
    have h1 := hat 1 _ rfl
    have g1 : DataW.trod enc Try.prog w base spare held n 29 (([c0, c1, c2, c3, c4, c5, c6].drop 2).take (Try.prog.cellsOf 29)) = some (d1, p1) := h1
    rw [gcellsG] at g1
    replace g1 : DataW.trod enc Try.prog w base spare held n 29 [c2, c3] = some (d1, p1) := g1
    obtain ⟨t1, e1a, e1b, A1, C1, S1⟩ := grid_one3 g1 (hwe (j := 1) rfl rfl)
    have h2 := hat 2 _ rfl
    have g2 : DataW.trod enc Try.prog w base spare held n 3 (([c0, c1, c2, c3, c4, c5, c6].drop 4).take (Try.prog.cellsOf 3)) = some (d2, p2) := h2
    rw [gcellsI] at g2
    replace g2 : DataW.trod enc Try.prog w base spare held n 3 [c4] = some (d2, p2) := g2
    obtain ⟨s2, e2, u2a, u2b⟩ := field_int Try.underlying3 g2
    have h3 := hat 3 _ rfl
    have g3 : DataW.trod enc Try.prog w base spare held n 3 (([c0, c1, c2, c3, c4, c5, c6].drop 5).take (Try.prog.cellsOf 3)) = some (d3, p3) := h3
    rw [gcellsI] at g3
    replace g3 : DataW.trod enc Try.prog w base spare held n 3 [c5] = some (d3, p3) := g3
    obtain ⟨s3, e3, u3a, u3b⟩ := field_int Try.underlying3 g3
    have h4 := hat 4 _ rfl
    have g4 : DataW.trod enc Try.prog w base spare held n 3 (([c0, c1, c2, c3, c4, c5, c6].drop 6).take (Try.prog.cellsOf 3)) = some (d4, p4) := h4
    rw [gcellsI] at g4
    replace g4 : DataW.trod enc Try.prog w base spare held n 3 [c6] = some (d4, p4) := g4
    obtain ⟨s4, e4, u4a, u4b⟩ := field_int Try.underlying3 g4
    subst e0a e0b e1a e1b e2 e3 e4
    exact ⟨t0, t1, s2, s3, s4, rfl, ⟨A0, C0, S0⟩, ⟨A1, C1, S1⟩⟩
theorem grid_arg9 {r : Reach} {b0 : Nat} {v : Value} {d : DataW H} {p : List MemPlace} (hv : Value.okWide Try.prog w r b0 29 v)
    (h : DataW.Trod enc Try.prog w base spare held 29 v d p) (hw : ∀ n ∈ d.weights Try.prog 29, n ≤ reachBytes) :
    ∃ t : TV, v = .agg #[.slice (TV.sa t) (TV.sl t) (TV.sc t), .slice (TV.ca t) (TV.cl t) (TV.cc t)] ∧ Good t w := by
  obtain ⟨⟨l⟩, rfl, hsz⟩ := okWide_struct Try.underlying29 hv
  obtain ⟨fuel, hf⟩ := h
  replace hsz : l.length = Try.prog.cellsOf 29 := hsz
  rw [gcellsG] at hsz
  match l, hsz with
  | [c0, c1], _ =>
    obtain ⟨t, e0, e1, A, C, S⟩ := grid_one3 (x := (d, p)) hf hw
    subst e0 e1
    exact ⟨t, rfl, A, C, S⟩
end
/-- A block holds the struct of a statement on a part. -/
def P9At (w : World) (B : Nat) (s c s2 c2 a b d : Value) : Prop := w.heap[B]? = some (.cells #[s, c, s2, c2, a, b, d] 43 (0, 0))
theorem P9At.lt {w : World} {B : Nat} {s c s2 c2 a b d : Value} (h : P9At w B s c s2 c2 a b d) : B < w.heap.size := (Array.getElem?_eq_some_iff.1 h).1
theorem P9At.kept {w w' : World} {B : Nat} {s c s2 c2 a b d : Value} (h : P9At w B s c s2 c2 a b d) (hb : Below w.heap.size w w') : P9At w' B s c s2 c2 a b d := (hb.block B h.lt).trans h
theorem P9At.see {w : World} {B : Nat} {s c s2 c2 a b d : Value} (h : P9At w B s c s2 c2 a b d) : w.cell? ⟨B, 0, none⟩ = some s ∧ w.cell? ⟨B, 1, none⟩ = some c ∧ w.cell? ⟨B, 2, none⟩ = some s2 ∧ w.cell? ⟨B, 3, none⟩ = some c2 ∧ w.cell? ⟨B, 4, none⟩ = some a ∧ w.cell? ⟨B, 5, none⟩ = some b ∧ w.cell? ⟨B, 6, none⟩ = some d := by
  refine ⟨?_, ?_, ?_, ?_, ?_, ?_, ?_⟩ <;> (rw [Joins.cell_of_block h]; rfl)
theorem part9_box (w : World) (s c s2 c2 a b d : Value) : ∃ wB, Hid (w.alloc (.cells #[s, c, s2, c2, a, b, d] 43) = wB) ∧ Hid (P9At wB w.heap.size s c s2 c2 a b d) ∧ Hid (Below w.heap.size w wB) ∧ Hid (wB.heap.size = w.heap.size + 1) :=
  ⟨_, Lib.hid rfl, Lib.hid (World.alloc_heap_new w _), Lib.hid ((Below.refl _ _).alloc (Nat.le_refl _) _), Lib.hid (by simp)⟩
end Go.Proofs.Ytieegaojcjhfdaa

/-
  The fixed answer of the statements of layer 9: the program gives it.
-/
namespace Go.Proofs.Ytieegaojcjhfdaa
open Go.RowKit
set_option linter.unusedVariables false
set_option linter.unusedSimpArgs false

set_option maxRecDepth 100000 in
set_option maxHeartbeats 8000000 in
theorem awake09_any (w : World) :
    Calls Try.prog 9 #[] w fun e w' => e = .returned (.bool true) ∧ Below w.heap.size w w' := by
  have v1 : Hid (ofR [2] [1, 2] = (0, ([2], [1, 2])) ∧ ofR [1] [3] = (0, ([1], [3])) ∧ ofR [3] [4, 5, 6] = (0, ([3], [4, 5, 6]))) := by show _ ∧ _; refine ⟨?_, ?_, ?_⟩ <;> decide +kernel
  have v2 : Hid (mjoinR 0 [([2], [1, 2]), ([1], [3])] = (0, ([3], [1, 2, 3]))) := by show _ = _; decide +kernel
  have v3 : Hid (jbackR 0 ([3], [4, 5, 6]) [([2], [1, 2]), ([1], [3])] = (0, [([2], [4, 5]), ([1], [6])])) := by show _ = _; decide +kernel
  have v4 : Hid (turnR ([3], [1, 2, 3]) [3, 1] = (0, ([3, 1], [1, 2, 3])) ∧ turnR ([3], [1, 2, 3]) [2] = (20, ([], []))) := by show _ ∧ _; refine ⟨?_, ?_⟩ <;> decide +kernel
  have fs : Hid (Fits [2] ∧ Fits [1, 2] ∧ Fits [1] ∧ Fits [3] ∧ Fits [4, 5, 6] ∧ Fits [3, 1]) := by
    show _ ∧ _ ∧ _ ∧ _ ∧ _ ∧ _
    refine ⟨?_, ?_, ?_, ?_, ?_, ?_⟩ <;> exact fits_few (by decide +kernel)
  obtain ⟨r0, hr0, s0, c0, z0⟩ := rows_made5 w 3 35 [2] [1, 2] 1 2 rfl rfl (by omega) (by omega) fs.out.1 fs.out.2.1
  go_enter Try.func9, Try.ntmps9
  go_wp2_with fail
  have hr0' := hr0.out
  simp only [List.map_cons, List.map_nil] at hr0'
  rw [hr0']
  clear hr0'
  have C := tof_any _ 1 1 [2] _ 2 2 [1, 2] r0 s0.out c0.out (by omega)
  rw [v1.out.1] at C
  refine C.mono ?_
  rintro e y1 h'
  obtain ⟨A1, A2, A3, A4, rfl, GA, hb⟩ := tres_open (n := 1) (m := 2) h' rfl rfl
  obtain ⟨x1, hx1, JA, zx, -⟩ := grid_box y1 (.slice A1 1 A2) (.slice A3 2 A4)
  have q := hb.trans (zx.out.mono hb.size)
  have q2 := z0.out.trans (q.mono z0.out.size)
  have KA := Lib.hid (GA.kept zx.out)
  have bz := Lib.hid q2
  clear C h' GA hb q q2 zx s0 c0 z0 hr0
  obtain ⟨r0, hr0, s0, c0, z0⟩ := rows_made5 x1 3 35 [1] [3] 1 1 rfl rfl (by omega) (by omega) fs.out.2.2.1 fs.out.2.2.2.1
  go_upto_region 2 with (fail)
  rw [hx1.out]
  have hr0' := hr0.out
  simp only [List.map_cons, List.map_nil] at hr0'
  go_wp2_with fail
  clear hr0'
  have C := tof_any _ 1 1 [1] _ 1 1 [3] r0 s0.out c0.out (by omega)
  rw [v1.out.2.1] at C
  refine C.mono ?_
  rintro e y2 h'
  obtain ⟨B1, B2, B3, B4, rfl, GB, hb⟩ := tres_open (n := 1) (m := 1) h' rfl rfl
  obtain ⟨x2, hx2, JB, zx, -⟩ := grid_box y2 (.slice B1 1 B2) (.slice B3 1 B4)
  have q := hb.trans (zx.out.mono hb.size)
  have q2 := z0.out.trans (q.mono z0.out.size)
  have KB := Lib.hid (GB.kept zx.out)
  replace KA := Lib.hid (KA.out.kept q2)
  replace JA := Lib.hid (JA.out.kept q2)
  replace bz := Lib.hid (bz.out.trans (q2.mono bz.out.size))
  clear C h' GB hb q q2 zx s0 c0 z0 hr0
  obtain ⟨r0, hr0, s0, c0, z0⟩ := rows_made5 x2 3 35 [3] [4, 5, 6] 1 3 rfl rfl (by omega) (by omega) fs.out.2.2.2.1 fs.out.2.2.2.2.1
  go_upto_region 3 with (fail)
  rw [hx2.out]
  have hr0' := hr0.out
  simp only [List.map_cons, List.map_nil] at hr0'
  go_wp2_with fail
  clear hr0'
  have C := tof_any _ 1 1 [3] _ 3 3 [4, 5, 6] r0 s0.out c0.out (by omega)
  rw [v1.out.2.2] at C
  refine C.mono ?_
  rintro e y3 h'
  obtain ⟨G1, G2, G3, G4, rfl, GG, hb⟩ := tres_open (n := 1) (m := 3) h' rfl rfl
  obtain ⟨x3, hx3, JG, zx, -⟩ := grid_box y3 (.slice G1 1 G2) (.slice G3 3 G4)
  have q := hb.trans (zx.out.mono hb.size)
  have q2 := z0.out.trans (q.mono z0.out.size)
  have KG := Lib.hid (GG.kept zx.out)
  replace KA := Lib.hid (KA.out.kept q2)
  replace JA := Lib.hid (JA.out.kept q2)
  replace KB := Lib.hid (KB.out.kept q2)
  replace JB := Lib.hid (JB.out.kept q2)
  replace bz := Lib.hid (bz.out.trans (q2.mono bz.out.size))
  clear C h' GG hb q q2 zx s0 c0 z0 hr0
  obtain ⟨r4, hr4, gs4, zr4⟩ := gsl_made2 x3 ⟨A1, 1, A2, [2], A3, 2, A4, [1, 2]⟩ ⟨B1, 1, B2, [1], B3, 1, B4, [3]⟩ KA.out KB.out
  go_upto_region 4 with (fail)
  rw [hx3.out]
  obtain ⟨j0, j1, -, -⟩ := JA.out.see
  obtain ⟨k0, k1, -, -⟩ := JB.out.see
  have hr4' := hr4.out
  go_wp2_with fail
  clear hr4' j0 j1 k0 k1
  have C := mjoin_any 0 _ 2 2 _ r4 gs4.out (by show 2 + (1 + 0) ≤ 1000; omega)
  rw [show List.map pr [⟨A1, 1, A2, [2], A3, 2, A4, [1, 2]⟩, ⟨B1, 1, B2, [1], B3, 1, B4, [3]⟩] = [([2], [1, 2]), ([1], [3])] from rfl, v2.out] at C
  refine C.mono ?_
  rintro e y4 h'
  obtain ⟨C1, C2, C3, C4, rfl, GC, hb⟩ := tres_open (n := 1) (m := 3) h' rfl rfl
  obtain ⟨x4, hx4, JC, zx, -⟩ := grid_box y4 (.slice C1 1 C2) (.slice C3 3 C4)
  have q := hb.trans (zx.out.mono hb.size)
  have q2 := zr4.out.trans (q.mono zr4.out.size)
  have KC := Lib.hid (GC.kept zx.out)
  replace KA := Lib.hid (KA.out.kept q2)
  replace JA := Lib.hid (JA.out.kept q2)
  replace KB := Lib.hid (KB.out.kept q2)
  replace JB := Lib.hid (JB.out.kept q2)
  replace KG := Lib.hid (KG.out.kept q2)
  replace JG := Lib.hid (JG.out.kept q2)
  replace bz := Lib.hid (bz.out.trans (Below.mono q2 bz.out.size))
  clear C h' GC hb q q2 zx gs4 zr4 hr4
  obtain ⟨r5, hr5, gs5, zr5⟩ := gsl_made2 x4 ⟨A1, 1, A2, [2], A3, 2, A4, [1, 2]⟩ ⟨B1, 1, B2, [1], B3, 1, B4, [3]⟩ KA.out KB.out
  go_upto_region 5 with (fail)
  rw [hx4.out]
  obtain ⟨i0, i1, -, -⟩ := JG.out.see
  obtain ⟨j0, j1, -, -⟩ := JA.out.see
  obtain ⟨k0, k1, -, -⟩ := JB.out.see
  have hr5' := hr5.out
  go_wp2_with fail
  clear hr5' i0 i1 j0 j1 k0 k1
  have C := jback_any 0 ⟨G1, 1, G2, [3], G3, 3, G4, [4, 5, 6]⟩ _ 2 2 _ r5 gs5.out (by omega) (KG.out.kept zr5.out) (by show 2 + (1 + 0) ≤ 1000; omega) (by show 3 ≤ 1000; omega)
  rw [show List.map pr [⟨A1, 1, A2, [2], A3, 2, A4, [1, 2]⟩, ⟨B1, 1, B2, [1], B3, 1, B4, [3]⟩] = [([2], [1, 2]), ([1], [3])] from rfl, show pr ⟨G1, 1, G2, [3], G3, 3, G4, [4, 5, 6]⟩ = ([3], [4, 5, 6]) from rfl, v3.out] at C
  refine C.mono ?_
  rintro e y5 ⟨la, ln, lc, us, rfl, hus, hgs, hb⟩
  match us, hus with
  | [⟨D1, dn, D2, ds, D3, dm, D4, dc⟩, ⟨E1, en, E2, es, E3, em, E4, ec⟩], hus =>
    simp only [pr, List.map_cons, List.map_nil, List.cons.injEq, Prod.mk.injEq, and_true] at hus
    obtain ⟨⟨rfl, rfl⟩, rfl, rfl⟩ := hus
    obtain rfl : 2 = ln := hgs.len
    obtain ⟨lb, lo, rfl⟩ := hgs.addr (by omega)
    obtain ⟨d0, d1, hD⟩ := hgs.cell (j := 0) rfl
    obtain ⟨e0, e1, hE⟩ := hgs.cell (j := 1) rfl
    obtain rfl : 1 = dn := hD.slen
    obtain rfl : 2 = dm := hD.len
    obtain rfl : 1 = en := hE.slen
    obtain rfl : 1 = em := hE.len
    obtain ⟨eb, eo, rfl, hec⟩ := ints_cell hE.1.2.1 (by show 0 < 1; omega)
    have e2 := hec 0 (by show 0 < 1; omega)
    simp only [Nat.zero_mul, Nat.add_zero, Nat.one_mul, List.getD_cons_zero] at d0 d1 e0 e1 e2
    have q2 := zr5.out.trans (hb.mono zr5.out.size)
    replace KA := Lib.hid (KA.out.kept q2)
    replace JA := Lib.hid (JA.out.kept q2)
    replace KB := Lib.hid (KB.out.kept q2)
    replace JB := Lib.hid (JB.out.kept q2)
    replace KG := Lib.hid (KG.out.kept q2)
    replace JG := Lib.hid (JG.out.kept q2)
    replace KC := Lib.hid (KC.out.kept q2)
    replace JC := Lib.hid (JC.out.kept q2)
    replace bz := Lib.hid (bz.out.trans (Below.mono q2 bz.out.size))
    have D1' := Lib.hid d1
    have E1' := Lib.hid e1
    have E2' := Lib.hid e2
    clear C hgs d0 d1 e0 e1 hD hE hec e2 gs5 zr5 hr5
    obtain ⟨r6, hr6, s6, z6⟩ := row_made9 y5 3 [3, 1] 2 rfl (by omega) fs.out.2.2.2.2.2
    obtain ⟨m0, m1, -, -⟩ := JC.out.see
    have hr6' := hr6.out
    simp only [List.map_cons, List.map_nil] at hr6'
    go_wp2_with fail
    clear hr6' m0 m1
    have C := turn_any ⟨C1, 1, C2, [3], C3, 3, C4, [1, 2, 3]⟩ _ 2 2 [3, 1] r6 (KC.out.kept z6.out) s6.out (by show 3 ≤ 1000; omega)
    rw [show pr ⟨C1, 1, C2, [3], C3, 3, C4, [1, 2, 3]⟩ = ([3], [1, 2, 3]) from rfl, v4.out.1] at C
    refine C.mono ?_
    rintro e y6 h'
    obtain ⟨T1, T2, T3, T4, rfl, GT, hb6⟩ := tres_open (n := 2) (m := 3) h' rfl rfl
    obtain ⟨x6, hx6, JT, zx, -⟩ := grid_box y6 (.slice T1 2 T2) (.slice T3 3 T4)
    have q := hb6.trans (zx.out.mono hb6.size)
    have q3 := z6.out.trans (q.mono z6.out.size)
    have JC6 := Lib.hid (JC.out.kept q3)
    have KC6 := Lib.hid (KC.out.kept q3)
    have D6 := Lib.hid (cell_later q3 D1'.out)
    have E6 := Lib.hid (cell_later q3 E1'.out)
    have F6 := Lib.hid (cell_later q3 E2'.out)
    have bz6 := Lib.hid (bz.out.trans (q3.mono bz.out.size))
    clear C h' GT hb6 q q3 zx s6 z6 hr6 D1' E1' E2'
    obtain ⟨r7, hr7, s7, z7⟩ := row_made9 x6 3 [2] 1 rfl (by omega) fs.out.1
    go_upto_region 7 with (fail)
    rw [hx6.out]
    obtain ⟨m0, m1, -, -⟩ := JC6.out.see
    have hr7' := hr7.out
    simp only [List.map_cons, List.map_nil] at hr7'
    go_wp2_with fail
    clear hr7' m0 m1
    have C := turn_any ⟨C1, 1, C2, [3], C3, 3, C4, [1, 2, 3]⟩ _ 1 1 [2] r7 (KC6.out.kept z7.out) s7.out (by show 3 ≤ 1000; omega)
    rw [show pr ⟨C1, 1, C2, [3], C3, 3, C4, [1, 2, 3]⟩ = ([3], [1, 2, 3]) from rfl, v4.out.2] at C
    refine C.mono ?_
    rintro e y7 h'
    obtain ⟨U1, U2, U3, U4, rfl, GU, hb7⟩ := tres_open (n := 0) (m := 0) h' rfl rfl
    obtain ⟨x7, hx7, JU, zx, -⟩ := grid_box y7 (.slice U1 0 U2) (.slice U3 0 U4)
    have q := hb7.trans (zx.out.mono hb7.size)
    have q3 := z7.out.trans (q.mono z7.out.size)
    have bz7 := Lib.hid (bz6.out.trans (q3.mono bz6.out.size))
    obtain ⟨m0, m1, -, -⟩ := (JC6.out.kept q3).see
    obtain ⟨n0, n1, -, -⟩ := (JT.out.kept q3).see
    have d1 := cell_later q3 D6.out
    have e1 := cell_later q3 E6.out
    have e2 := cell_later q3 F6.out
    clear C h' GU hb7 q q3 zx s7 z7 hr7 D6 E6 F6
    go_upto_region 8 with (fail)
    rw [hx7.out]
    go_wp2_with fail
    go_ret
    exact ⟨rfl, bz7.out⟩
end Go.Proofs.Ytieegaojcjhfdaa

/-
  The walk of the statement MoveJoins.
-/
namespace Go.Proofs.Ytieegaojcjhfdaa
open Go.RowKit
set_option linter.unusedVariables false
set_option linter.unusedSimpArgs false

theorem nilP_cl {t : TV} {w : World} (h : Good t w) (hp : pr t = nilP) : t.cl = 0 := by
  have := h.len
  have e : t.cs = [] := congrArg Prod.snd hp
  rw [e] at this
  simpa using this.symm
theorem mjoin_wrong {side : Int} {p : Pr} {l : List Pr} (h : okP p = false) : mjoinR side (p :: l) = (20, nilP) := by
  match l with
  | [] =>
    show aloneR p side = _
    unfold aloneR
    rw [if_pos h]
  | q :: l =>
    show goJ side (0, p) (q :: l) = _
    have e : joinR p q side = (20, nilP) := by
      have : joinE p q side = 20 := by unfold joinE; rw [if_pos h]
      unfold joinR
      rw [this, if_neg (by decide)]
    unfold goJ
    simp only [e]
    rw [if_pos (by decide)]

set_option maxRecDepth 100000 in
set_option maxHeartbeats 4000000 in
theorem joins_big (side : Int) (a : Option Addr) (len cap : Nat) (ts : List TV) (w : World) (h : Gsl w a len cap ts) (hs : small9 ts = false) :
    Calls Try.prog 3 #[.int .i64 side, .slice a len cap] w fun e w' => e = .returned (.bool true) ∧ Below w.heap.size w w' := by
  have SM := small9_any a len cap ts w h.at_
  rw [hs] at SM
  have SM1 := Lib.hid SM
  clear SM hs h
  go_enter Try.func3, Try.ntmps3
  go_upto_region 1 with (fail)
  go_wp2_with fail
  refine SM1.out.mono ?_
  rintro e w1 ⟨rfl, hb1⟩
  have b1 := Lib.hid hb1
  clear hb1 SM1
  go_wp2_with fail
  refine (awake09_any _).mono ?_
  rintro e w20 ⟨rfl, hb20⟩
  have b20 := Lib.hid (b1.out.trans (hb20.mono b1.out.size))
  clear hb20
  go_wp2_with fail
  go_ret
  exact ⟨rfl, b20.out⟩
set_option maxRecDepth 100000 in
set_option maxHeartbeats 4000000 in
theorem joins_long (side : Int) (a : Option Addr) (len cap : Nat) (ts : List TV) (w : World) (h : Gsl w a len cap ts) (hs : small9 ts = true) (hl : 12 < len) :
    Calls Try.prog 3 #[.int .i64 side, .slice a len cap] w fun e w' => e = .returned (.bool true) ∧ Below w.heap.size w w' := by
  have SM := small9_any a len cap ts w h.at_
  rw [hs] at SM
  have SM1 := Lib.hid SM
  have d12 : (12 : Int) < (len : Int) := by omega
  clear SM hs h hl
  go_enter Try.func3, Try.ntmps3
  go_upto_region 1 with (fail)
  go_wp2_with fail
  refine SM1.out.mono ?_
  rintro e w1 ⟨rfl, hb1⟩
  have b1 := Lib.hid hb1
  clear hb1 SM1
  go_wp2_with fail
  refine (awake09_any _).mono ?_
  rintro e w20 ⟨rfl, hb20⟩
  have b20 := Lib.hid (b1.out.trans (hb20.mono b1.out.size))
  clear hb20
  go_wp2_with fail
  go_ret
  exact ⟨rfl, b20.out⟩

set_option maxRecDepth 100000 in
set_option maxHeartbeats 4000000 in
theorem joins_none (side : Int) (a : Option Addr) (cap : Nat) (w : World) (h : Gsl w a 0 cap []) :
    Calls Try.prog 3 #[.int .i64 side, .slice a 0 cap] w fun e w' => e = .returned (.bool true) ∧ Below w.heap.size w w' := by
  have SM := small9_any a 0 cap [] w h.at_
  rw [show small9 [] = true from rfl] at SM
  have MJ := Lib.hid (fun w1 (hb : Below w.heap.size w w1) => mjoin_any side a 0 cap [] w1 (h.kept hb) (by simp))
  have MJ0 : Hid (∀ w1, Below w.heap.size w w1 → Calls Try.prog 10 #[.int .i64 side, .slice a 0 cap] w1 (TRes w1 (20, nilP))) := MJ
  replace MJ := MJ0
  clear MJ0
  have SM1 := Lib.hid SM
  clear SM h
  go_enter Try.func3, Try.ntmps3
  go_upto_region 1 with (fail)
  go_wp2_with fail
  refine SM1.out.mono ?_
  rintro e w1 ⟨rfl, hb1⟩
  have b1 := Lib.hid hb1
  clear hb1 SM1
  go_wp2_with fail
  refine (MJ.out w1 b1.out).mono ?_
  rintro e w2 ⟨O, rfl, hpO, hGO, hLO, hb2⟩
  obtain ⟨w3, hw3, JO, zx, nO⟩ := grid_box w2 (.slice O.sa O.sl O.sc) (.slice O.ca O.cl O.cc)
  have q := hb2.trans (zx.out.mono hb2.size)
  have b3 := Lib.hid (b1.out.trans (q.mono b1.out.size))
  have KO := Lib.hid (hGO.kept zx.out)
  have hLO2 := Lib.hid (fun b hb => (hLO b hb).2)
  have hpO2 := Lib.hid hpO
  clear hpO hGO hLO hb2 q zx MJ
  go_upto_region 4 with (fail)
  rw [hw3.out]
  have hcl := nilP_cl KO.out hpO2.out
  rw [hcl] at JO
  obtain ⟨o0, o1, -, -⟩ := JO.out.see
  go_wp2_with fail
  clear o0 o1
  refine (awake09_any _).mono ?_
  rintro e w20 ⟨rfl, hb20⟩
  have b20 := Lib.hid (b3.out.trans (hb20.mono b3.out.size))
  clear hb20
  go_wp2_with fail
  go_ret
  exact ⟨rfl, b20.out⟩

set_option maxRecDepth 100000 in
set_option maxHeartbeats 4000000 in
theorem joins_wrong (side : Int) (b off n cap : Nat) (t0 : TV) (us : List TV) (w : World) (h : Gsl w (some ⟨b, off, none⟩) (n + 1) cap (t0 :: us)) (hs : small9 (t0 :: us) = true) (hl : n + 1 ≤ 12) (hr : rightT t0.ss t0.cl = false) :
    Calls Try.prog 3 #[.int .i64 side, .slice (some ⟨b, off, none⟩) (n + 1 : Nat) cap] w fun e w' => e = .returned (.bool true) ∧ Below w.heap.size w w' := by
  have SM := small9_any _ (n + 1) cap _ w h.at_
  rw [hs] at SM
  have hsum : ((t0 :: us).map fun t => t.cl).sum ≤ 1000 := Nat.le_trans (wtsM_cl _) (Nat.le_trans (small9_le hs) (by decide))
  have MJ := fun w1 (hb : Below w.heap.size w w1) => mjoin_any side _ (n + 1) cap (t0 :: us) w1 (h.kept hb) hsum
  have g0 := h.good (t := t0) (by simp)
  rw [List.map_cons, mjoin_wrong (by rw [g0.ok]; exact hr)] at MJ
  replace MJ := Lib.hid MJ
  have HC := Lib.hid (fun w1 (hb : Below w.heap.size w w1) => (h.kept hb).cell (j := 0) rfl)
  have RX := Lib.hid (fun w1 (hb : Below w.heap.size w w1) => hr ▸ right9_any t0.sa t0.sl t0.sc t0.ss t0.ca t0.cl t0.cc w1 (g0.kept hb).1.1 (by have := g0.1.2.2.2; omega))
  have SM1 := Lib.hid SM
  have d12 : ¬ (12 : Int) < ((n : Int) + 1) := by omega
  have d0 : ((n : Int) + 1 == 0) = false := beq_eq_false_iff_ne.2 (by omega)
  clear SM h hs hl hr hsum g0
  go_enter Try.func3, Try.ntmps3
  go_upto_region 1 with (fail)
  go_wp2_with fail
  refine SM1.out.mono ?_
  rintro e w1 ⟨rfl, hb1⟩
  have b1 := Lib.hid hb1
  clear hb1 SM1
  go_wp2_with fail
  refine (MJ.out w1 b1.out).mono ?_
  rintro e w2 ⟨O, rfl, hpO, hGO, hLO, hb2⟩
  obtain ⟨w3, hw3, JO, zx, nO⟩ := grid_box w2 (.slice O.sa O.sl O.sc) (.slice O.ca O.cl O.cc)
  have q := hb2.trans (zx.out.mono hb2.size)
  have b3 := Lib.hid (b1.out.trans (q.mono b1.out.size))
  have KO := Lib.hid (hGO.kept zx.out)
  have hLO2 := Lib.hid (fun b hb => (hLO b hb).2)
  have hpO2 := Lib.hid hpO
  clear hpO hGO hLO hb2 q zx MJ
  go_upto_region 4 with (fail)
  rw [hw3.out]
  have hcl := nilP_cl KO.out hpO2.out
  rw [hcl] at JO
  obtain ⟨c0, c1, -⟩ := HC.out w3 b3.out
  simp only [Nat.zero_mul, Nat.add_zero] at c0 c1
  go_wp2_with fail
  clear c0 c1
  refine (RX.out w3 b3.out).mono ?_
  rintro e w4 ⟨rfl, hb4⟩
  have b4 := Lib.hid (b3.out.trans (hb4.mono b3.out.size))
  obtain ⟨o0, o1, -, -⟩ := (JO.out.kept hb4).see
  clear hb4
  go_wp2_with fail
  clear o0 o1
  refine (awake09_any _).mono ?_
  rintro e w20 ⟨rfl, hb20⟩
  have b20 := Lib.hid (b4.out.trans (hb20.mono b4.out.size))
  clear hb20
  go_wp2_with fail
  go_ret
  exact ⟨rfl, b20.out⟩

set_option maxRecDepth 100000 in
set_option maxHeartbeats 4000000 in
theorem joins_low (side : Int) (b off cap : Nat) (t0 : TV) (w : World) (h : Gsl w (some ⟨b, off, none⟩) 1 cap [t0]) (hs : small9 [t0] = true) (hr : rightT t0.ss t0.cl = true) (hd : side < 0) :
    Calls Try.prog 3 #[.int .i64 side, .slice (some ⟨b, off, none⟩) 1 cap] w fun e w' => e = .returned (.bool true) ∧ Below w.heap.size w w' := by
  have SM := small9_any _ 1 cap _ w h.at_
  rw [hs] at SM
  have hsum : ([t0].map fun t => t.cl).sum ≤ 1000 := Nat.le_trans (wtsM_cl _) (Nat.le_trans (small9_le hs) (by decide))
  have MJ := fun w1 (hb : Below w.heap.size w w1) => mjoin_any side _ 1 cap [t0] w1 (h.kept hb) hsum
  have g0 := h.good (t := t0) (by simp)
  have hok := g0.ok
  rw [hr] at hok
  have eM : mjoinR side ([t0].map pr) = (11, nilP) := by
    show aloneR (pr t0) side = _
    unfold aloneR
    rw [if_neg (by rw [hok]; decide)]
    rw [if_pos (by show hasD t0.ss.length side = false; exact (hasD_low (by omega)).symm)]
  rw [eM] at MJ
  replace MJ := Lib.hid MJ
  have HC := Lib.hid (fun w1 (hb : Below w.heap.size w w1) => (h.kept hb).cell (j := 0) rfl)
  have RX := Lib.hid (fun w1 (hb : Below w.heap.size w w1) => hr ▸ right9_any t0.sa t0.sl t0.sc t0.ss t0.ca t0.cl t0.cc w1 (g0.kept hb).1.1 (by have := g0.1.2.2.2; omega))
  have SM1 := Lib.hid SM
  clear SM h hs hr hsum g0 hok eM
  go_enter Try.func3, Try.ntmps3
  go_upto_region 1 with (fail)
  go_wp2_with fail
  refine SM1.out.mono ?_
  rintro e w1 ⟨rfl, hb1⟩
  have b1 := Lib.hid hb1
  clear hb1 SM1
  go_wp2_with fail
  refine (MJ.out w1 b1.out).mono ?_
  rintro e w2 ⟨O, rfl, hpO, hGO, hLO, hb2⟩
  obtain ⟨w3, hw3, JO, zx, nO⟩ := grid_box w2 (.slice O.sa O.sl O.sc) (.slice O.ca O.cl O.cc)
  have q := hb2.trans (zx.out.mono hb2.size)
  have b3 := Lib.hid (b1.out.trans (q.mono b1.out.size))
  have KO := Lib.hid (hGO.kept zx.out)
  have hLO2 := Lib.hid (fun b hb => (hLO b hb).2)
  have hpO2 := Lib.hid hpO
  clear hpO hGO hLO hb2 q zx MJ
  go_upto_region 4 with (fail)
  rw [hw3.out]
  obtain ⟨c0, c1, -⟩ := HC.out w3 b3.out
  simp only [Nat.zero_mul, Nat.add_zero] at c0 c1
  go_wp2_with fail
  clear c0 c1
  refine (RX.out w3 b3.out).mono ?_
  rintro e w4 ⟨rfl, hb4⟩
  have b4 := Lib.hid (b3.out.trans (hb4.mono b3.out.size))
  have JO4 := Lib.hid (JO.out.kept hb4)
  have KO4 := Lib.hid (KO.out.kept hb4)
  clear hb4 JO KO
  obtain ⟨c0, c1, g4⟩ := HC.out w4 b4.out
  simp only [Nat.zero_mul, Nat.add_zero] at c0 c1
  have hcl := nilP_cl KO4.out hpO2.out
  rw [hcl] at JO4
  obtain ⟨o0, o1, -, -⟩ := JO4.out.see
  clear g4
  go_wp2_with fail
  clear o0 o1 c0 c1
  refine (awake09_any _).mono ?_
  rintro e w20 ⟨rfl, hb20⟩
  have b20 := Lib.hid (b4.out.trans (hb20.mono b4.out.size))
  clear hb20
  go_wp2_with fail
  go_ret
  exact ⟨rfl, b20.out⟩

set_option maxRecDepth 100000 in
set_option maxHeartbeats 4000000 in
theorem joins_high (side : Int) (b off cap : Nat) (t0 : TV) (w : World) (h : Gsl w (some ⟨b, off, none⟩) 1 cap [t0]) (hs : small9 [t0] = true) (hr : rightT t0.ss t0.cl = true) (hd : ¬ side < 0) (hd2 : (t0.sl : Int) ≤ side) :
    Calls Try.prog 3 #[.int .i64 side, .slice (some ⟨b, off, none⟩) 1 cap] w fun e w' => e = .returned (.bool true) ∧ Below w.heap.size w w' := by
  have SM := small9_any _ 1 cap _ w h.at_
  rw [hs] at SM
  have hsum : ([t0].map fun t => t.cl).sum ≤ 1000 := Nat.le_trans (wtsM_cl _) (Nat.le_trans (small9_le hs) (by decide))
  have MJ := fun w1 (hb : Below w.heap.size w w1) => mjoin_any side _ 1 cap [t0] w1 (h.kept hb) hsum
  have g0 := h.good (t := t0) (by simp)
  have hok := g0.ok
  rw [hr] at hok
  have eM : mjoinR side ([t0].map pr) = (11, nilP) := by
    show aloneR (pr t0) side = _
    unfold aloneR
    rw [if_neg (by rw [hok]; decide)]
    rw [if_pos (by show hasD t0.ss.length side = false; rw [g0.slen]; exact (hasD_high (by omega)).symm)]
  rw [eM] at MJ
  replace MJ := Lib.hid MJ
  have HC := Lib.hid (fun w1 (hb : Below w.heap.size w w1) => (h.kept hb).cell (j := 0) rfl)
  have RX := Lib.hid (fun w1 (hb : Below w.heap.size w w1) => hr ▸ right9_any t0.sa t0.sl t0.sc t0.ss t0.ca t0.cl t0.cc w1 (g0.kept hb).1.1 (by have := g0.1.2.2.2; omega))
  have SM1 := Lib.hid SM
  clear SM h hs hr hsum g0 hok eM
  go_enter Try.func3, Try.ntmps3
  go_upto_region 1 with (fail)
  go_wp2_with fail
  refine SM1.out.mono ?_
  rintro e w1 ⟨rfl, hb1⟩
  have b1 := Lib.hid hb1
  clear hb1 SM1
  go_wp2_with fail
  refine (MJ.out w1 b1.out).mono ?_
  rintro e w2 ⟨O, rfl, hpO, hGO, hLO, hb2⟩
  obtain ⟨w3, hw3, JO, zx, nO⟩ := grid_box w2 (.slice O.sa O.sl O.sc) (.slice O.ca O.cl O.cc)
  have q := hb2.trans (zx.out.mono hb2.size)
  have b3 := Lib.hid (b1.out.trans (q.mono b1.out.size))
  have KO := Lib.hid (hGO.kept zx.out)
  have hLO2 := Lib.hid (fun b hb => (hLO b hb).2)
  have hpO2 := Lib.hid hpO
  clear hpO hGO hLO hb2 q zx MJ
  go_upto_region 4 with (fail)
  rw [hw3.out]
  obtain ⟨c0, c1, -⟩ := HC.out w3 b3.out
  simp only [Nat.zero_mul, Nat.add_zero] at c0 c1
  go_wp2_with fail
  clear c0 c1
  refine (RX.out w3 b3.out).mono ?_
  rintro e w4 ⟨rfl, hb4⟩
  have b4 := Lib.hid (b3.out.trans (hb4.mono b3.out.size))
  have JO4 := Lib.hid (JO.out.kept hb4)
  have KO4 := Lib.hid (KO.out.kept hb4)
  clear hb4 JO KO
  obtain ⟨c0, c1, g4⟩ := HC.out w4 b4.out
  simp only [Nat.zero_mul, Nat.add_zero] at c0 c1
  have hcl := nilP_cl KO4.out hpO2.out
  rw [hcl] at JO4
  obtain ⟨o0, o1, -, -⟩ := JO4.out.see
  clear g4
  go_wp2_with fail
  clear o0 o1 c0 c1
  refine (awake09_any _).mono ?_
  rintro e w20 ⟨rfl, hb20⟩
  have b20 := Lib.hid (b4.out.trans (hb20.mono b4.out.size))
  clear hb20
  go_wp2_with fail
  go_ret
  exact ⟨rfl, b20.out⟩

set_option maxRecDepth 100000 in
set_option maxHeartbeats 8000000 in
theorem joins_one (side : Int) (b off cap : Nat) (t0 : TV) (w : World) (h : Gsl w (some ⟨b, off, none⟩) 1 cap [t0]) (hs : small9 [t0] = true) (hr : rightT t0.ss t0.cl = true) (hd : ¬ side < 0) (hd2 : ¬ (t0.sl : Int) ≤ side) :
    Calls Try.prog 3 #[.int .i64 side, .slice (some ⟨b, off, none⟩) 1 cap] w fun e w' => e = .returned (.bool true) ∧ Below w.heap.size w w' := by
  have SM := small9_any _ 1 cap _ w h.at_
  rw [hs] at SM
  have hsum : ([t0].map fun t => t.cl).sum ≤ 1000 := Nat.le_trans (wtsM_cl _) (Nat.le_trans (small9_le hs) (by decide))
  have MJ := fun w1 (hb : Below w.heap.size w w1) => mjoin_any side _ 1 cap [t0] w1 (h.kept hb) hsum
  have g0 := h.good (t := t0) (by simp)
  have hok := g0.ok
  rw [hr] at hok
  have eM : mjoinR side ([t0].map pr) = (0, pr t0) := by
    show aloneR (pr t0) side = _
    unfold aloneR
    rw [if_neg (by rw [hok]; decide)]
    rw [if_neg (by show ¬ hasD t0.ss.length side = false; rw [g0.slen, ← hasD_yes (len := t0.sl) (side := side) (by omega) (by omega)]; decide)]
  rw [eM] at MJ
  replace MJ := Lib.hid MJ
  have HC := Lib.hid (fun w1 (hb : Below w.heap.size w w1) => (h.kept hb).cell (j := 0) rfl)
  have RX := Lib.hid (fun w1 (hb : Below w.heap.size w w1) => hr ▸ right9_any t0.sa t0.sl t0.sc t0.ss t0.ca t0.cl t0.cc w1 (g0.kept hb).1.1 (by have := g0.1.2.2.2; omega))
  have SM1 := Lib.hid SM
  have hcap := h.room
  have hcap2 := h.fits
  clear SM h hs hr hsum g0 hok eM
  go_enter Try.func3, Try.ntmps3
  go_upto_region 1 with (fail)
  go_wp2_with fail
  refine SM1.out.mono ?_
  rintro e w1 ⟨rfl, hb1⟩
  have b1 := Lib.hid hb1
  clear hb1 SM1
  go_wp2_with fail
  refine (MJ.out w1 b1.out).mono ?_
  rintro e w2 ⟨O, rfl, hpO, hGO, hLO, hb2⟩
  obtain ⟨w3, hw3, JO, zx, nO⟩ := grid_box w2 (.slice O.sa O.sl O.sc) (.slice O.ca O.cl O.cc)
  have q := hb2.trans (zx.out.mono hb2.size)
  have b3 := Lib.hid (b1.out.trans (q.mono b1.out.size))
  have KO := Lib.hid (hGO.kept zx.out)
  have hLO2 := Lib.hid (fun b hb => (hLO b hb).2)
  have hpO2 := Lib.hid hpO
  clear hpO hGO hLO hb2 q zx MJ
  go_upto_region 4 with (fail)
  rw [hw3.out]
  obtain ⟨c0, c1, -⟩ := HC.out w3 b3.out
  simp only [Nat.zero_mul, Nat.add_zero] at c0 c1
  go_wp2_with fail
  clear c0 c1
  refine (RX.out w3 b3.out).mono ?_
  rintro e w4 ⟨rfl, hb4⟩
  have b4 := Lib.hid (b3.out.trans (hb4.mono b3.out.size))
  have JO4 := Lib.hid (JO.out.kept hb4)
  have KO4 := Lib.hid (KO.out.kept hb4)
  clear hb4 JO KO
  obtain ⟨c0, c1, g4⟩ := HC.out w4 b4.out
  simp only [Nat.zero_mul, Nat.add_zero] at c0 c1
  obtain ⟨w5, hw5, JW, zx, -⟩ := grid_box w4 (.slice t0.sa t0.sl t0.sc) (.slice t0.ca t0.cl t0.cc)
  have b5 := Lib.hid (b4.out.trans (zx.out.mono b4.out.size))
  have JO5 := Lib.hid (JO4.out.kept zx.out)
  have EQ := tequal_any O.sa O.sl O.sc O.ss O.ca O.cl O.cc O.cs t0.sa t0.sl t0.sc t0.ss t0.ca t0.cl t0.cc t0.cs w5 (KO4.out.kept zx.out).1.1 (KO4.out.kept zx.out).1.2.1 (g4.kept zx.out).1.1 (g4.kept zx.out).1.2.1
  rw [show sameT O.ss O.cs t0.ss t0.cs = true by rw [show O.ss = t0.ss from congrArg Prod.fst hpO2.out, show O.cs = t0.cs from congrArg Prod.snd hpO2.out]; unfold sameT; rw [sameL_self, sameL_self]; rfl] at EQ
  replace EQ := Lib.hid EQ
  clear g4 zx
  have hcc : Hid True := Lib.hid trivial
  by_cases cc : cap = 1
  · subst cc
    go_upto_region 9 with (fail)
    rw [hw5.out]
    clear c0 c1
    obtain ⟨o0, o1, -, -⟩ := JO5.out.see
    obtain ⟨p0, p1, -, -⟩ := JW.out.see
    go_wp2_with fail
    go_loopw [81] (fun i wr => i = .int .i64 0 ∧ wr = w5) (fun _ _ => 0)
    case atStart => exact ⟨rfl, rfl⟩
    case round =>
      obtain ⟨rfl, rfl⟩ := hrel
      go_wp2_with fail
      refine EQ.out.mono ?_
      rintro e w6 ⟨rfl, hb6⟩
      have b6 := Lib.hid (b5.out.trans (hb6.mono b5.out.size))
      clear hb6
      go_wp2_with fail
      refine (awake09_any _).mono ?_
      rintro e w20 ⟨rfl, hb20⟩
      have b20 := Lib.hid (b6.out.trans (hb20.mono b6.out.size))
      clear hb20
      go_wp2_with fail
      go_ret
      exact ⟨rfl, b20.out⟩
  · go_upto_region 9 with (fail)
    rw [hw5.out]
    clear c0 c1
    obtain ⟨o0, o1, -, -⟩ := JO5.out.see
    obtain ⟨p0, p1, -, -⟩ := JW.out.see
    go_wp2_with fail
    go_loopw [81] (fun i wr => i = .int .i64 0 ∧ wr = w5) (fun _ _ => 0)
    case atStart => exact ⟨rfl, rfl⟩
    case round =>
      obtain ⟨rfl, rfl⟩ := hrel
      go_wp2_with fail
      refine EQ.out.mono ?_
      rintro e w6 ⟨rfl, hb6⟩
      have b6 := Lib.hid (b5.out.trans (hb6.mono b5.out.size))
      clear hb6
      go_wp2_with fail
      refine (awake09_any _).mono ?_
      rintro e w20 ⟨rfl, hb20⟩
      have b20 := Lib.hid (b6.out.trans (hb20.mono b6.out.size))
      clear hb20
      go_wp2_with fail
      go_ret
      exact ⟨rfl, b20.out⟩

set_option maxRecDepth 100000 in
set_option maxHeartbeats 16000000 in
theorem joins_more (side : Int) (b off n cap : Nat) (t0 : TV) (us : List TV) (w : World) (h : Gsl w (some ⟨b, off, none⟩) (n + 2) cap (t0 :: us)) (hs : small9 (t0 :: us) = true) (hl : n + 2 ≤ 12) (hr : rightT t0.ss t0.cl = true) :
    Calls Try.prog 3 #[.int .i64 side, .slice (some ⟨b, off, none⟩) (n + 2 : Nat) cap] w fun e w' => e = .returned (.bool true) ∧ Below w.heap.size w w' := by
  have SM := small9_any _ (n + 2) cap _ w h.at_
  rw [hs] at SM
  have hsum : ((t0 :: us).map fun t => t.cl).sum ≤ 1000 := Nat.le_trans (wtsM_cl _) (Nat.le_trans (small9_le hs) (by decide))
  have MJ := fun w1 (hb : Below w.heap.size w w1) => mjoin_any side _ (n + 2) cap (t0 :: us) w1 (h.kept hb) hsum
  have g0 := h.good (t := t0) (by simp)
  have hul : us.length = n + 1 := by have := h.len; simpa using this
  obtain ⟨R, hR⟩ : ∃ R, goJ side (0, pr t0) (us.map pr) = R := ⟨_, rfl⟩
  have eM : mjoinR side ((t0 :: us).map pr) = R := by
    rw [← hR]
    match us, hul with
    | u :: l, _ => rfl
  rw [eM] at MJ
  obtain ⟨xe, pe⟩ := R
  replace MJ := Lib.hid MJ
  have HC := Lib.hid (fun w1 (hb : Below w.heap.size w w1) => (h.kept hb).cell (j := 0) rfl)
  have H := Lib.hid (fun w1 (hb : Below w.heap.size w w1) k (hk : k < n + 1) => (by
    obtain ⟨x, hx⟩ : ∃ x, us[k]? = some x := ⟨_, List.getElem?_eq_getElem (by omega)⟩
    obtain ⟨d0, d1, hg⟩ := (h.kept hb).cell (j := k + 1) (t := x) (by simpa using hx)
    rw [show off + (k + 1) * 2 = off + 2 + k * 2 by omega] at d0 d1
    exact ⟨x, hx, d0, d1, hg⟩ : ∃ x : TV, us[k]? = some x ∧ w1.cell? ⟨b, off + 2 + k * 2, none⟩ = some (.slice x.sa x.sl x.sc) ∧ w1.cell? ⟨b, off + 2 + k * 2 + 1, none⟩ = some (.slice x.ca x.cl x.cc) ∧ Good x w1))
  have RX := Lib.hid (fun w1 (hb : Below w.heap.size w w1) => hr ▸ right9_any t0.sa t0.sl t0.sc t0.ss t0.ca t0.cl t0.cc w1 (g0.kept hb).1.1 (by have := g0.1.2.2.2; omega))
  have SM1 := Lib.hid SM
  have HG0 := Lib.hid (fun w1 (hb : Below w.heap.size w w1) => g0.kept hb)
  have hR0 := Lib.hid hR
  have hul0 := Lib.hid hul
  have hl0 := Lib.hid (show t0.cl + (us.map fun t => t.cl).sum ≤ 1000 by simpa using hsum)
  have d12 : ¬ (12 : Int) < ((n : Int) + 2) := by omega
  have d0 : ((n : Int) + 2 == 0) = false := beq_eq_false_iff_ne.2 (by omega)
  have d1 : ((n : Int) + 2 == 1) = false := beq_eq_false_iff_ne.2 (by omega)
  have hcap := h.room
  have hcap2 := h.fits
  have d3 : ¬ cap = 1 := by omega
  clear SM h hs hl hr hsum g0 eM hR hul
  go_enter Try.func3, Try.ntmps3
  go_upto_region 1 with (fail)
  go_wp2_with fail
  refine SM1.out.mono ?_
  rintro e w1 ⟨rfl, hb1⟩
  have b1 := Lib.hid hb1
  clear hb1 SM1
  go_wp2_with fail
  refine (MJ.out w1 b1.out).mono ?_
  rintro e w2 ⟨O, rfl, hpO, hGO, hLO, hb2⟩
  obtain ⟨w3, hw3, JO, zx, nO⟩ := grid_box w2 (.slice O.sa O.sl O.sc) (.slice O.ca O.cl O.cc)
  have q := hb2.trans (zx.out.mono hb2.size)
  have b3 := Lib.hid (b1.out.trans (q.mono b1.out.size))
  have KO := Lib.hid (hGO.kept zx.out)
  have hLO2 := Lib.hid (fun b hb => (hLO b hb).2)
  have hpO2 := Lib.hid hpO
  clear hpO hGO hLO hb2 q zx MJ
  go_upto_region 4 with (fail)
  rw [hw3.out]
  obtain ⟨c0, c1, -⟩ := HC.out w3 b3.out
  simp only [Nat.zero_mul, Nat.add_zero] at c0 c1
  go_wp2_with fail
  clear c0 c1
  refine (RX.out w3 b3.out).mono ?_
  rintro e w4 ⟨rfl, hb4⟩
  have b4 := Lib.hid (b3.out.trans (hb4.mono b3.out.size))
  have JO4 := Lib.hid (JO.out.kept hb4)
  have KO4 := Lib.hid (KO.out.kept hb4)
  have hs4 := Lib.hid (show w2.heap.size < w4.heap.size from JO4.out.lt)
  clear hb4 JO KO
  obtain ⟨c0, c1, -⟩ := HC.out w4 b4.out
  simp only [Nat.zero_mul, Nat.add_zero] at c0 c1
  obtain ⟨w5, hw5, JW, zx, n5⟩ := grid_box w4 (.slice t0.sa t0.sl t0.sc) (.slice t0.ca t0.cl t0.cc)
  have b5 := Lib.hid (b4.out.trans (zx.out.mono b4.out.size))
  have JO5 := Lib.hid (JO4.out.kept zx.out)
  have KO5 := Lib.hid (KO4.out.kept zx.out)
  clear zx JO4 KO4
  go_upto_region 9 with (fail)
  rw [hw5.out]
  clear c0 c1
  go_upto_region 10 with (fail)
  have S0 := Lib.hid (show goJ side (0, pr t0) ((us.drop 0).map pr) = (xe, pe) by rw [List.drop_zero]; exact hR0.out)
  have L0 := Lib.hid (show t0.cl + ((us.drop 0).map fun t => t.cl).sum ≤ 1000 by rw [List.drop_zero]; exact hl0.out)
  have hlow := Lib.hid (show ∀ b ∈ tblocks O, b < w4.heap.size from fun b hb => Nat.lt_trans (hLO2.out b hb) hs4.out)
  have G5 := Lib.hid (HG0.out w5 b5.out)
  have hww := Lib.hid (show w.heap.size ≤ w4.heap.size from b4.out.size)
  have N5 := Lib.hid (show w4.heap.size + 1 ≤ w5.heap.size by rw [n5.out]; exact Nat.le_refl _)
  go_loopw [81] (fun i wr => ∃ (k : Nat) (J : TV), k ≤ n + 1 ∧ i = .int .i64 k ∧ Hid (GAt wr w4.heap.size (.slice J.sa J.sl J.sc) (.slice J.ca J.cl J.cc)) ∧ Hid (GAt wr w2.heap.size (.slice O.sa O.sl O.sc) (.slice O.ca O.cl O.cc)) ∧ Hid (Good J wr) ∧ Hid (Good O wr) ∧ Hid (Below w.heap.size w wr) ∧ Hid (w4.heap.size + 1 ≤ wr.heap.size) ∧ Hid (goJ side (0, pr J) ((us.drop k).map pr) = (xe, pe)) ∧ Hid (J.cl + ((us.drop k).map fun t => t.cl).sum ≤ 1000)) (fun i _ => n + 1 - (intOf i).toNat)
  case atStart => exact ⟨0, t0, Nat.zero_le _, rfl, JW, JO5, G5, KO5, b5, N5, S0, L0⟩
  case round =>
    obtain ⟨k, J, hk, rfl, G7, G5', hJ, hO, hbr, hsz, hS, hL⟩ := hrel
    by_cases hlt : k < n + 1
    · obtain ⟨x, hx, c0, c1, hgx⟩ := H.out wr hbr.out k hlt
      have hdrop : us.drop k = x :: us.drop (k + 1) := by
        rw [List.drop_eq_getElem_cons (by rw [hul0.out]; exact hlt)]
        congr 1
        have := (List.getElem?_eq_some_iff.1 hx).2
        exact this
      have hS' := hS.out
      have hL' := hL.out
      rw [hdrop, List.map_cons] at hS'
      rw [hdrop, List.map_cons, List.sum_cons] at hL'
      obtain ⟨wX, hwX, JX, zX, nX⟩ := grid_box wr (.slice x.sa x.sl x.sc) (.slice x.ca x.cl x.cc)
      have C := tjoin_any J x side wX (hJ.out.kept zX.out) (hgx.kept zX.out) (by omega) (by omega)
      obtain ⟨r, hr⟩ : ∃ r, joinR (pr J) (pr x) side = r := ⟨_, rfl⟩
      have hok : r.1 = 0 → r.2.2.length = J.cs.length + x.cs.length := fun h0 => by rw [← hr] at h0 ⊢; exact (joinR_ok h0).2.1
      have hno : r.1 ≠ 0 → r = (r.1, nilP) := fun h0 => by rw [← hr] at h0 ⊢; exact joinR_nil h0
      unfold goJ at hS'
      rw [hr] at hS' C
      have e1 := hJ.out.len
      have e2 := hgx.len
      obtain ⟨x1, p1⟩ := r
      have C1 := Lib.hid C
      have hS2 := Lib.hid hS'
      have hL2 := Lib.hid hL'
      have hok2 := Lib.hid hok
      have hno2 := Lib.hid hno
      have e12 := Lib.hid (And.intro e1 e2)
      have G7x := Lib.hid (G7.out.kept zX.out)
      have G5x := Lib.hid (G5'.out.kept zX.out)
      have Ox := Lib.hid (hO.out.kept zX.out)
      have bx := Lib.hid (hbr.out.trans (zX.out.mono hbr.out.size))
      have hszx := Lib.hid (Nat.le_trans hsz.out zX.out.size)
      clear C hS hL hS' hL' hok hno hdrop hx hgx e1 e2 hr hJ hO
      go_upto_region 12 with (fail)
      rw [hwX.out]
      clear c0 c1
      obtain ⟨g0, g1, -, -⟩ := G7x.out.see
      obtain ⟨x0, x1', -, -⟩ := JX.out.see
      by_cases hx0 : x1 = 0
      · subst hx0
        go_wp2_with fail
        refine C1.out.mono ?_
        rintro e w6 ⟨t, rfl, hp, hG, hLi, hb2⟩
        obtain ⟨w7, hw7, J7, z7, n7⟩ := grid_box w6 (.slice t.sa t.sl t.sc) (.slice t.ca t.cl t.cc)
        clear g0 g1 x0 x1'
        go_upto_region 13 with (fail)
        rw [hw7.out]
        have hb3 := hb2.trans (z7.out.mono hb2.size)
        have G7y := G7x.out.kept hb3
        have G5y := G5x.out.kept hb3
        have by3 := bx.out.trans (hb3.mono bx.out.size)
        obtain ⟨f0, f1, u0, u1⟩ := G7y.see
        obtain ⟨j0, j1, -, -⟩ := J7.out.see
        have hlo : ∀ b ∈ tblocks t, w4.heap.size + 1 ≤ b := fun b hb => Nat.le_trans hszx.out (hLi b hb).1
        obtain ⟨w8, hw8⟩ : ∃ w8, (w7.setCell ⟨w4.heap.size, 0, none⟩ (.slice t.sa t.sl t.sc)).setCell ⟨w4.heap.size, 1, none⟩ (.slice t.ca t.cl t.cc) = w8 := ⟨_, rfl⟩
        have hsw := hs4.out
        have F7 : Hid (GAt w8 w4.heap.size (.slice t.sa t.sl t.sc) (.slice t.ca t.cl t.cc)) := Lib.hid (by rw [← hw8]; exact G7y.set _ _)
        have F5 : Hid (GAt w8 w2.heap.size (.slice O.sa O.sl O.sc) (.slice O.ca O.cl O.cc)) := Lib.hid (by rw [← hw8]; exact (G5y.other (p := ⟨w4.heap.size, 0, none⟩) _ (by simp; omega)).other (p := ⟨w4.heap.size, 1, none⟩) _ (by simp; omega))
        have FG : Hid (Good t w8) := Lib.hid (by
          rw [← hw8]
          exact ((hG.kept z7.out).set _ (fun b hb => by have := hlo b hb; simp; omega)).set _ (fun b hb => by have := hlo b hb; simp; omega))
        have FO : Hid (Good O w8) := Lib.hid (by
          rw [← hw8]
          exact ((Ox.out.kept hb3).set _ (fun b hb => by have := hlow.out b hb; simp; omega)).set _ (fun b hb => by have := hlow.out b hb; simp; omega))
        have FB : Hid (Below w.heap.size w w8) := Lib.hid (by
          rw [← hw8]
          exact (by3.setCell (p := ⟨w4.heap.size, 0, none⟩) hww.out _).setCell (p := ⟨w4.heap.size, 1, none⟩) hww.out _)
        have FZ : Hid (w4.heap.size + 1 ≤ w8.heap.size) := Lib.hid (by have := hszx.out; have := hb3.size; have e : w8.heap.size = w7.heap.size := by rw [← hw8]; simp
                                                                       omega)
        have hp2 : pr t = p1 := hp
        have FS : Hid (goJ side (0, pr t) ((us.drop (k + 1)).map pr) = (xe, pe)) := Lib.hid (by
          have := hS2.out
          simp only [ne_eq, not_true_eq_false, if_false] at this
          rw [hp2]
          exact this)
        have FT : Hid (t.cl + ((us.drop (k + 1)).map fun t => t.cl).sum ≤ 1000) := Lib.hid (by
          have h1 := hL2.out
          have h2 := hok2.out (by first | rfl | trivial)
          have h3 := e12.out
          have h4 := hG.len
          have h5 : t.cs.length = p1.2.length := by rw [← hp2]; rfl
          omega)
        have HW8 := Lib.hid hw8
        clear hp hG hLi hb2 G7y G5y hb3 by3 hlo hp2 hw8 hsw
        go_upto_region 16 with (fail)
        rw [HW8.out]
        clear u0 u1 f0 f1 j0 j1
        go_wp2_with fail
        go_roundw
        case rel => exact ⟨k + 1, t, by omega, by go_num, F7, F5, FG, FO, FB, FZ, FS, FT⟩
        case measure => (simp [intOf]; try omega)
      · have dx : (x1 != 0) = true := bne_iff_ne.2 hx0
        have RE : (xe, pe) = (x1, nilP) := by
          have := hS2.out
          rw [if_pos (by exact hx0)] at this
          rw [← this]
          exact hno2.out hx0
        obtain rfl : xe = x1 := congrArg Prod.fst RE
        have hpe : pe = nilP := congrArg Prod.snd RE
        have hcl := nilP_cl Ox.out (hpO2.out.trans hpe)
        go_wp2_with fail
        refine C1.out.mono ?_
        rintro e w6 ⟨t, rfl, hp, hG, hLi, hb2⟩
        obtain ⟨w7, hw7, J7, z7, n7⟩ := grid_box w6 (.slice t.sa t.sl t.sc) (.slice t.ca t.cl t.cc)
        clear g0 g1 x0 x1'
        go_upto_region 13 with (fail)
        rw [hw7.out]
        have hb3 := hb2.trans (z7.out.mono hb2.size)
        have G5y := G5x.out.kept hb3
        rw [hcl] at G5y
        obtain ⟨o0, o1, -, -⟩ := G5y.see
        have b7 := Lib.hid (bx.out.trans (hb3.mono bx.out.size))
        clear RE hpe hcl hb3 G5y hp hG hLi hb2 hx0
        go_wp2_with fail
        clear o0 o1
        refine (awake09_any _).mono ?_
        rintro e w20 ⟨rfl, hb20⟩
        have b20 := Lib.hid (b7.out.trans (hb20.mono b7.out.size))
        clear hb20
        go_wp2_with fail
        go_ret
        exact ⟨rfl, b20.out⟩
    · obtain rfl : k = n + 1 := by omega
      have hS' := hS.out
      rw [List.drop_of_length_le (by rw [hul0.out]; omega)] at hS'
      have hS2 : (0, pr J) = (xe, pe) := hS'
      obtain rfl : 0 = xe := congrArg Prod.fst hS2
      have hpe : pr J = pe := congrArg Prod.snd hS2
      have hOJ : pr O = pr J := hpO2.out.trans hpe.symm
      have EQ := tequal_any O.sa O.sl O.sc O.ss O.ca O.cl O.cc O.cs J.sa J.sl J.sc J.ss J.ca J.cl J.cc J.cs wr hO.out.1.1 hO.out.1.2.1 hJ.out.1.1 hJ.out.1.2.1
      rw [show sameT O.ss O.cs J.ss J.cs = true by rw [show O.ss = J.ss from congrArg Prod.fst hOJ, show O.cs = J.cs from congrArg Prod.snd hOJ]; unfold sameT; rw [sameL_self, sameL_self]; rfl] at EQ
      replace EQ := Lib.hid EQ
      obtain ⟨g0, g1, -, -⟩ := G7.out.see
      obtain ⟨o0, o1, -, -⟩ := G5'.out.see
      have b6 := Lib.hid hbr.out
      clear hS hS' hS2 hpe hOJ hL hJ hO hlt hbr
      go_wp2_with fail
      clear g0 g1 o0 o1
      refine EQ.out.mono ?_
      rintro e w6 ⟨rfl, hb6⟩
      have b7 := Lib.hid (b6.out.trans (hb6.mono b6.out.size))
      clear hb6
      go_wp2_with fail
      refine (awake09_any _).mono ?_
      rintro e w20 ⟨rfl, hb20⟩
      have b20 := Lib.hid (b7.out.trans (hb20.mono b7.out.size))
      clear hb20
      go_wp2_with fail
      go_ret
      exact ⟨rfl, b20.out⟩

theorem moveJoins_walk (side : Int) (a : Option Addr) (len cap : Nat) (ts : List TV) (w : World) (h1 : -9223372036854775808 ≤ side) (h2 : side ≤ 9223372036854775807) (h : Gsl w a len cap ts) :
    Calls Try.prog 3 #[.int .i64 side, .slice a len cap] w fun e w' => e = .returned (.bool true) ∧ Below w.heap.size w w' := by
  cases hs : small9 ts
  · exact joins_big side a len cap ts w h hs
  by_cases hl : len ≤ 12
  case neg => exact joins_long side a len cap ts w h hs (by omega)
  match ts, h, hs with
  | [], h, _ =>
    obtain rfl : len = 0 := h.len.symm
    exact joins_none side a cap w h
  | [t0], h, hs =>
    obtain rfl : len = 1 := h.len.symm
    obtain ⟨b, off, rfl⟩ := h.addr (by omega)
    cases hr : rightT t0.ss t0.cl
    · exact joins_wrong side b off 0 cap t0 [] w h hs hl hr
    by_cases c1 : side < 0
    · exact joins_low side b off cap t0 w h hs hr c1
    by_cases c2 : (t0.sl : Int) ≤ side
    · exact joins_high side b off cap t0 w h hs hr c1 c2
    · exact joins_one side b off cap t0 w h hs hr c1 c2
  | t0 :: t1 :: r, h, hs =>
    obtain ⟨n, rfl⟩ : ∃ n, len = n + 2 := ⟨r.length, by have := h.len; simp at this; omega⟩
    obtain ⟨b, off, rfl⟩ := h.addr (by omega)
    cases hr : rightT t0.ss t0.cl
    · exact joins_wrong side b off (n + 1) cap t0 (t1 :: r) w h hs hl hr
    · exact joins_more side b off n cap t0 (t1 :: r) w h hs hl hr
end Go.Proofs.Ytieegaojcjhfdaa

