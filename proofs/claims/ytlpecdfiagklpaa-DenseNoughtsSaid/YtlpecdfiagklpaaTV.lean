/-
  A tensor as a value: in memory, and as (a part of) an argument.
-/
import Derived.Test.YtlpecdfiagklpaaTenB
import Derived.Test.YtlpecdfiagklpaaOpen
import Derived.SizedLaws
namespace Go.Proofs.Ytlpecdfiagklpaa
open Go.RowKit Go.ChangeShapes Go.WideShapes Go.Deep
set_option linter.unusedVariables false
set_option linter.unusedSimpArgs false

/-- A tensor as a value: where its rows lie, and what they hold. -/
structure TV where
  sa : Option Addr
  sl : Nat
  sc : Nat
  ss : List Int
  ca : Option Addr
  cl : Nat
  cc : Nat
  cs : List Int
def TV.s (t : TV) : Value := .slice t.sa t.sl t.sc
def TV.c (t : TV) : Value := .slice t.ca t.cl t.cc
def TV.At (t : TV) (w : World) : Prop := IntsAt w t.sa t.sl t.ss ∧ IntsAt w t.ca t.cl t.cs ∧ t.sl ≤ 17592186044416 ∧ t.cl ≤ 17592186044416
theorem TV.At.kept {t : TV} {w w' : World} (h : t.At w) (hb : Below w.heap.size w w') : t.At w' := ⟨h.1.kept hb, h.2.1.kept hb, h.2.2⟩
instance : Inhabited TV := ⟨⟨none, 0, 0, [], none, 0, 0, []⟩⟩

/-- Its cells lie within their row. -/
def TV.Cap (t : TV) : Prop := t.cl ≤ t.cc ∧ t.cc ≤ 9223372036854775807

section
variable {H : Type} {enc : TypeId × Value → H} {P : Program} {w : World} {base : Nat} {spare : Nat → Bool} {held : Bool}

theorem field_ints_sized {t e : TypeId} {fuel : Nat} {c : Value} {x : DataW H × List MemPlace} (ht : P.underlying t = some (.slice e)) (he : P.underlying e = some (.int .i64)) (hc : P.cellsOf e = 1) (hb : P.bytesOf e = 8)
    (h : DataW.trod enc P w base spare held fuel t [c] = some x) (hw : ∀ n ∈ x.1.weights P t, n ≤ reachBytes) : ∃ a len cap zs, c = .slice a len cap ∧ IntsAt w a len zs ∧ len ≤ 17592186044416 ∧ len ≤ cap ∧ cap ≤ 9223372036854775807 := by
  rcases open_ints ht he hc h with ⟨hcs, -⟩ | ⟨a, len, cap, zs, hcs, -, hl, hm, hz, hx, hcell, hwz⟩
  · obtain rfl := (List.cons.inj hcs).1
    exact ⟨_, _, _, _, rfl, IntsAt.nil _ _, by omega, by omega, by omega⟩
  · obtain rfl := (List.cons.inj hcs).1
    have hz' : zs.length = cap ∨ zs.length = len := by
      split at hz
      · exact .inl hz
      · exact .inr hz
    have hlz : len ≤ zs.length := by omega
    have hwt : zs.length * 8 ≤ reachBytes := by
      have := hw (zs.length * 8) (by
        rw [hx]
        simp only [DataW.weights, ht, List.mem_cons]
        refine .inl ?_
        rw [hb]
        simp [lits]
        omega)
      exact this
    have hr : reachBytes = 140737488351232 := by decide
    rw [hr] at hwt
    refine ⟨_, _, cap, zs.take len, rfl, ?_, by omega, hl, by unfold maxLen at hm; omega⟩
    rcases hz' with hs | hs
    · exact IntsAt.of_row hl hm hs hcell hwz
    · exact IntsAt.of_row (cap := len) (Nat.le_refl _) (by omega) hs hcell hwz
end

theorem gcellsS : Try.prog.cellsOf 23 = 1 := by kernel_rfl
theorem gcellsF : Try.prog.cellsOf 24 = 1 := by kernel_rfl
theorem gcellsG : Try.prog.cellsOf 26 = 2 := by kernel_rfl
theorem gbytesG : Try.prog.bytesOf 26 = 48 := by kernel_rfl
theorem gbytesI : Try.prog.bytesOf 3 = 8 := by kernel_rfl
theorem gbytesF : Try.prog.bytesOf 47 = 8 := by kernel_rfl

section
variable {H : Type} {enc : TypeId × Value → H} {w : World} {base : Nat} {spare : Nat → Bool} {held : Bool}
/-- A tensor's two cells, opened. -/
theorem grid_sized {n : Nat} {v0 v1 : Value} {d0 d1 : DataW H} {p0 p1 : List MemPlace} (h0 : DataW.trod enc Try.prog w base spare held n 23 [v0] = some (d0, p0)) (h1 : DataW.trod enc Try.prog w base spare held n 24 [v1] = some (d1, p1))
    (w0 : ∀ n ∈ d0.weights Try.prog 23, n ≤ reachBytes) (w1 : ∀ n ∈ d1.weights Try.prog 24, n ≤ reachBytes) :
    ∃ t : TV, v0 = .slice t.sa t.sl t.sc ∧ v1 = .slice t.ca t.cl t.cc ∧ t.At w ∧ t.Cap := by
  obtain ⟨sa, sl, sc, ss, rfl, i0, l0, -, -⟩ := field_ints_sized Try.underlying23 Try.underlying3 (by kernel_rfl) gbytesI h0 w0
  obtain ⟨ca, cl, cc, cs, rfl, i1, l1, m1, m2⟩ := field_ints_sized Try.underlying24 Try.underlying47 (by kernel_rfl) gbytesF h1 w1
  exact ⟨⟨sa, sl, sc, ss, ca, cl, cc, cs⟩, rfl, rfl, ⟨i0, i1, l0, l1⟩, m1, m2⟩

theorem agg_weights {d0 d1 : DataW H} {n : Nat} (h : n ∈ d0.weights Try.prog 23 ∨ n ∈ d1.weights Try.prog 24) : n ∈ (DataW.agg [d0, d1]).weights Try.prog 26 := by
  simp only [DataW.weights, Try.underlying26]
  show n ∈ DataW.weightsEach Try.prog [23, 24] [d0, d1]
  simp only [DataW.weightsEach, List.mem_append, List.append_nil]
  exact h

theorem grid_one2 {fuel : Nat} {c0 c1 : Value} {x : DataW H × List MemPlace} (h : DataW.trod enc Try.prog w base spare held fuel 26 [c0, c1] = some x) (hw : ∀ n ∈ x.1.weights Try.prog 26, n ≤ reachBytes) :
    ∃ t : TV, c0 = .slice t.sa t.sl t.sc ∧ c1 = .slice t.ca t.cl t.cc ∧ t.At w ∧ t.Cap := by
  obtain ⟨xs, n, -, hxy, -, hxl, hat⟩ := DataW.trod_struct Try.underlying26 h
  match xs, hxl with
  | [(d0, p0), (d1, p1)], _ =>
    have h0 := hat 0 _ rfl
    have h1 := hat 1 _ rfl
    have g0 : DataW.trod enc Try.prog w base spare held n 23 (([c0, c1].drop 0).take (Try.prog.cellsOf 23)) = some (d0, p0) := h0
    have g1 : DataW.trod enc Try.prog w base spare held n 24 (([c0, c1].drop 1).take (Try.prog.cellsOf 24)) = some (d1, p1) := h1
    rw [gcellsS] at g0
    rw [gcellsF] at g1
    have ex : x.1 = .agg [d0, d1] := by rw [hxy]; rfl
    rw [ex] at hw
    exact grid_sized (n := n) (v0 := c0) (v1 := c1) g0 g1 (fun n hn => hw n (agg_weights (.inl hn))) (fun n hn => hw n (agg_weights (.inr hn)))

theorem grid_one {fuel : Nat} {c0 c1 : Value} {x : DataW H × List MemPlace} (h : DataW.trod enc Try.prog w base spare held fuel 26 [c0, c1] = some x) (hw : ∀ n ∈ x.1.weights Try.prog 26, n ≤ reachBytes) :
    ∃ t : TV, c0 = .slice t.sa t.sl t.sc ∧ c1 = .slice t.ca t.cl t.cc ∧ t.At w := by
  obtain ⟨t, a, b, c, -⟩ := grid_one2 h hw
  exact ⟨t, a, b, c⟩
end
end Go.Proofs.Ytlpecdfiagklpaa
