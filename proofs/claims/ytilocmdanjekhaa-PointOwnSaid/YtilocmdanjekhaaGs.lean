/-
  Lists of tensors: a slice of tensors in memory, and as an argument.
-/
import Derived.Test.YtilocmdanjekhaaTenB
import Derived.Test.YtilocmdanjekhaaOpen
import Derived.Deep.SlicePairs
import Derived.SizedLaws
namespace Go.Proofs.Ytilocmdanjekhaa
open Go.RowKit Go.ChangeShapes Go.WideShapes Go.Deep
set_option linter.unusedVariables false
set_option linter.unusedSimpArgs false

/-- A tensor as a value: where its rows lie, and what they hold. -/
structure TV where
  sa : Option Addr
  sl : Nat
  sc : Nat
  ss : List Int
  ca : Option Addr
  cl : Nat
  cc : Nat
  cs : List Int
def TV.s (t : TV) : Value := .slice t.sa t.sl t.sc
def TV.c (t : TV) : Value := .slice t.ca t.cl t.cc
def TV.At (t : TV) (w : World) : Prop := IntsAt w t.sa t.sl t.ss ∧ IntsAt w t.ca t.cl t.cs ∧ t.sl ≤ 17592186044416 ∧ t.cl ≤ 17592186044416
theorem TV.At.kept {t : TV} {w w' : World} (h : t.At w) (hb : Below w.heap.size w w') : t.At w' := ⟨h.1.kept hb, h.2.1.kept hb, h.2.2⟩
instance : Inhabited TV := ⟨⟨none, 0, 0, [], none, 0, 0, []⟩⟩

/-- A slice holds these tensors. -/
def GsAt (w : World) (a : Option Addr) (len : Nat) (ts : List TV) : Prop :=
  ts.length = len ∧ len ≤ 2932031007402 ∧ (∀ t ∈ ts, t.At w) ∧ (len = 0 ∨ ∃ b off, a = some ⟨b, off, none⟩ ∧ ∀ j t, ts[j]? = some t → w.cell? ⟨b, off + j * 2, none⟩ = some (.slice t.sa t.sl t.sc) ∧ w.cell? ⟨b, off + j * 2 + 1, none⟩ = some (.slice t.ca t.cl t.cc))
theorem GsAt.nil (w : World) (a : Option Addr) : GsAt w a 0 [] := ⟨rfl, by omega, (fun n hn => (List.not_mem_nil hn).elim), .inl rfl⟩
theorem GsAt.kept {w w' : World} {a : Option Addr} {len : Nat} {ts : List TV} (h : GsAt w a len ts) (hb : Below w.heap.size w w') : GsAt w' a len ts := by
  obtain ⟨h1, h2, h3, h4⟩ := h
  refine ⟨h1, h2, fun t ht => (h3 t ht).kept hb, ?_⟩
  rcases h4 with h4 | ⟨b, off, ha, hc⟩
  · exact .inl h4
  · exact .inr ⟨b, off, ha, fun j t hj => ⟨cell_later hb (hc j t hj).1, cell_later hb (hc j t hj).2⟩⟩
theorem GsAt.at {w : World} {a : Option Addr} {len : Nat} {ts : List TV} (h : GsAt w a len ts) {k : Nat} (hk : k < len) :
    ∃ t b off, ts[k]? = some t ∧ a = some ⟨b, off, none⟩ ∧ w.cell? ⟨b, off + k * 2, none⟩ = some (.slice t.sa t.sl t.sc) ∧ w.cell? ⟨b, off + k * 2 + 1, none⟩ = some (.slice t.ca t.cl t.cc) ∧ t.At w := by
  obtain ⟨h1, h2, h3, h4⟩ := h
  rcases h4 with h4 | ⟨b, off, ha, hc⟩
  · omega
  · have e : ts[k]? = some (ts[k]'(by omega)) := List.getElem?_eq_getElem (by omega)
    exact ⟨_, b, off, e, ha, (hc k _ e).1, (hc k _ e).2, h3 _ (List.getElem_mem _)⟩

theorem weightsAll_mem {H : Type} {P : Program} {e : TypeId} : ∀ {l : List (DataW H)} {d : DataW H}, d ∈ l → ∀ n ∈ d.weights P e, n ∈ DataW.weightsAll P e l
  | x :: r, d, hd, n, hn => by
    simp only [DataW.weightsAll, List.mem_append]
    rcases List.mem_cons.1 hd with rfl | hd
    · exact .inl hn
    · exact .inr (weightsAll_mem hd n hn)

section
variable {H : Type} {enc : TypeId × Value → H} {P : Program} {w : World} {base : Nat} {spare : Nat → Bool} {held : Bool}

theorem field_ints_sized {t e : TypeId} {fuel : Nat} {c : Value} {x : DataW H × List MemPlace} (ht : P.underlying t = some (.slice e)) (he : P.underlying e = some (.int .i64)) (hc : P.cellsOf e = 1) (hb : P.bytesOf e = 8)
    (h : DataW.trod enc P w base spare held fuel t [c] = some x) (hw : ∀ n ∈ x.1.weights P t, n ≤ reachBytes) : ∃ a len cap zs, c = .slice a len cap ∧ IntsAt w a len zs ∧ len ≤ 17592186044416 ∧ len ≤ cap ∧ cap ≤ 9223372036854775807 := by
  rcases open_ints ht he hc h with ⟨hcs, -⟩ | ⟨a, len, cap, zs, hcs, -, hl, hm, hz, hx, hcell, hwz⟩
  · obtain rfl := (List.cons.inj hcs).1
    exact ⟨_, _, _, _, rfl, IntsAt.nil _ _, by omega, by omega, by omega⟩
  · obtain rfl := (List.cons.inj hcs).1
    have hz' : zs.length = cap ∨ zs.length = len := by
      split at hz
      · exact .inl hz
      · exact .inr hz
    have hlz : len ≤ zs.length := by omega
    have hwt : zs.length * 8 ≤ reachBytes := by
      have := hw (zs.length * 8) (by
        rw [hx]
        simp only [DataW.weights, ht, List.mem_cons]
        refine .inl ?_
        rw [hb]
        simp [lits]
        omega)
      exact this
    have hr : reachBytes = 140737488351232 := by decide
    rw [hr] at hwt
    refine ⟨_, _, cap, zs.take len, rfl, ?_, by omega, hl, by unfold maxLen at hm; omega⟩
    rcases hz' with hs | hs
    · exact IntsAt.of_row hl hm hs hcell hwz
    · exact IntsAt.of_row (cap := len) (Nat.le_refl _) (by omega) hs hcell hwz
end

theorem gcellsS : Try.prog.cellsOf 27 = 1 := by kernel_rfl
theorem gcellsF : Try.prog.cellsOf 28 = 1 := by kernel_rfl
theorem gcellsG : Try.prog.cellsOf 30 = 2 := by kernel_rfl
theorem gbytesG : Try.prog.bytesOf 30 = 48 := by kernel_rfl
theorem gbytesI : Try.prog.bytesOf 3 = 8 := by kernel_rfl
theorem gbytesF : Try.prog.bytesOf 22 = 8 := by kernel_rfl

section
variable {H : Type} {enc : TypeId × Value → H} {w : World} {base : Nat} {spare : Nat → Bool} {held : Bool}
/-- A tensor's two cells, opened. -/
theorem grid_sized {n : Nat} {v0 v1 : Value} {d0 d1 : DataW H} {p0 p1 : List MemPlace} (h0 : DataW.trod enc Try.prog w base spare held n 27 [v0] = some (d0, p0)) (h1 : DataW.trod enc Try.prog w base spare held n 28 [v1] = some (d1, p1))
    (w0 : ∀ n ∈ d0.weights Try.prog 27, n ≤ reachBytes) (w1 : ∀ n ∈ d1.weights Try.prog 28, n ≤ reachBytes) :
    ∃ t : TV, v0 = .slice t.sa t.sl t.sc ∧ v1 = .slice t.ca t.cl t.cc ∧ t.At w := by
  obtain ⟨sa, sl, sc, ss, rfl, i0, l0, -, -⟩ := field_ints_sized Try.underlying27 Try.underlying3 (by kernel_rfl) gbytesI h0 w0
  obtain ⟨ca, cl, cc, cs, rfl, i1, l1, -, -⟩ := field_ints_sized Try.underlying28 Try.underlying22 (by kernel_rfl) gbytesF h1 w1
  exact ⟨⟨sa, sl, sc, ss, ca, cl, cc, cs⟩, rfl, rfl, i0, i1, l0, l1⟩

theorem agg_weights {d0 d1 : DataW H} {n : Nat} (h : n ∈ d0.weights Try.prog 27 ∨ n ∈ d1.weights Try.prog 28) : n ∈ (DataW.agg [d0, d1]).weights Try.prog 30 := by
  simp only [DataW.weights, Try.underlying30]
  show n ∈ DataW.weightsEach Try.prog [27, 28] [d0, d1]
  simp only [DataW.weightsEach, List.mem_append, List.append_nil]
  exact h

theorem grids_cell {fuel : Nat} {c : Value} {x : DataW H × List MemPlace} (h : DataW.trod enc Try.prog w base spare held fuel 23 [c] = some x) (hw : ∀ n ∈ x.1.weights Try.prog 23, n ≤ reachBytes) :
    ∃ a len cap ts, c = .slice a len cap ∧ GsAt w a len ts := by
  rcases open_slice_pairs Try.underlying23 Try.underlying30 gcellsG rfl rfl gcellsS gcellsF h with ⟨hcs, -⟩ | ⟨a, len, cap, m, n, V0, V1, D0, D1, P0, P1, hcs, hb, hl, hm, hmm, rfl, hx⟩
  · obtain rfl := (List.cons.inj hcs).1
    exact ⟨_, _, _, _, rfl, GsAt.nil _ _⟩
  · obtain rfl := (List.cons.inj hcs).1
    have hlm : len ≤ m := by rw [hmm]; split <;> omega
    have hw1 := hw (m * 48) (by
      simp only [DataW.weights, Try.underlying23, List.mem_cons, gbytesG]
      refine .inl ?_
      simp
      omega)
    have hr : reachBytes = 140737488351232 := by decide
    rw [hr] at hw1
    have each : ∀ i, i < len → ∃ t : TV, V0 i = .slice t.sa t.sl t.sc ∧ V1 i = .slice t.ca t.cl t.cc ∧ t.At w := by
      intro i hi
      obtain ⟨-, -, g0, g1⟩ := hx i (by omega)
      have hin : ∀ n, n ∈ (DataW.agg [D0 i, D1 i]).weights Try.prog 30 → n ≤ reachBytes := fun n hn => hw n (by
        simp only [DataW.weights, Try.underlying23, List.mem_cons, List.mem_append]
        exact .inr (.inl (weightsAll_mem (List.mem_map.2 ⟨i, List.mem_range.2 hi, rfl⟩) n hn)))
      exact grid_sized g0 g1 (fun n hn => hin n (agg_weights (.inl hn))) (fun n hn => hin n (agg_weights (.inr hn)))
    obtain ⟨f, hf⟩ := choose_lt each
    refine ⟨_, _, cap, (List.range len).map f, rfl, by simp, by omega, ?_, ?_⟩
    · intro t ht
      obtain ⟨i, hi, rfl⟩ := List.mem_map.1 ht
      exact (hf i (List.mem_range.1 hi)).2.2
    · by_cases h0 : len = 0
      · exact .inl h0
      · obtain ⟨b, off, spot⟩ := a
        have hspot : spot = none := by simpa [Addr.add] using World.cell?_spot (hx 0 (by omega)).1
        subst hspot
        refine .inr ⟨b, off, rfl, fun j t hj => ?_⟩
        rw [List.getElem?_map] at hj
        obtain ⟨i, hi, rfl⟩ := Option.map_eq_some_iff.1 hj
        obtain ⟨hlt, rfl⟩ : j < len ∧ j = i := by
          obtain ⟨h1, h2⟩ := List.getElem?_eq_some_iff.1 hi
          rw [List.length_range] at h1
          rw [List.getElem_range] at h2
          exact ⟨h1, h2⟩
        obtain ⟨c0, c1, -, -⟩ := hx j (by omega)
        rw [add_plain] at c0 c1
        rw [(hf j hlt).1] at c0
        rw [(hf j hlt).2.1] at c1
        exact ⟨c0, by rw [Nat.add_assoc]; exact c1⟩

/-- .. as an argument. -/
theorem grids_open {r : Reach} {b0 : Nat} {v : Value} {d : DataW H} {p : List MemPlace} (hv : Value.okWide Try.prog w r b0 23 v) (h : DataW.Trod enc Try.prog w base spare held 23 v d p)
    (hw : ∀ n ∈ d.weights Try.prog 23, n ≤ reachBytes) : ∃ a len cap ts, v = .slice a len cap ∧ GsAt w a len ts := by
  obtain ⟨a, len, cap, rfl⟩ := okWide_slice Try.underlying23 hv
  obtain ⟨fuel, hf⟩ := h
  exact grids_cell (c := .slice a len cap) hf hw
end
end Go.Proofs.Ytilocmdanjekhaa
