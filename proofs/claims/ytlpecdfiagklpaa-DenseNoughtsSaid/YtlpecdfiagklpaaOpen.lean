/-
  Opening arguments: a struct of fields of one cell each, by value, whatever their number; a slice of integers and an integer among its fields.
-/
import Derived.Test.YtlpecdfiagklpaaInts
import Derived.Lib.SmallJoins
import Derived.ChangeSlices
import Derived.OpenShut
namespace Go.Proofs.Ytlpecdfiagklpaa
open Go.RowKit Go.ChangeShapes Go.WideShapes Go.Deep
set_option linter.unusedVariables false
set_option linter.unusedSimpArgs false
section
variable {H : Type} {enc : TypeId × Value → H} {P : Program} {w : World} {base : Nat} {spare : Nat → Bool} {held : Bool}

theorem agg_open {r : Reach} {b0 : Nat} {t : TypeId} {fs : Array Field} {v : Value} {d : DataW H} {p : List MemPlace} (hs : P.underlying t = some (.struct fs)) (hone : oneCellFields P fs = true) (hC : P.cellsOf t = fs.size)
    (hv : Value.okWide P w r b0 t v) (h : DataW.Trod enc P w base spare held t v d p) :
    ∃ (cs : List Value) (n : Nat), v = .agg cs.toArray ∧ cs.length = fs.size ∧ ∀ (j : Nat) (f : Field), fs[j]? = some f → ∃ c y, cs[j]? = some c ∧ DataW.trod enc P w base spare held n f.type [c] = some y := by
  obtain ⟨⟨l⟩, rfl, hsz⟩ := okWide_struct hs hv
  obtain ⟨fuel, hf⟩ := h
  obtain ⟨xs, n, -, -, -, hxl, hat⟩ := DataW.trod_struct hs hf
  have hl : l.length = fs.size := hsz.trans hC
  refine ⟨l, n, rfl, hl, fun j f hj => ?_⟩
  have hlt : j < fs.size := (Array.getElem?_eq_some_iff.1 hj).1
  obtain ⟨ho, hk⟩ := hone_of hone j f hj
  have h1 := hat j f hj
  have e : ((Value.agg l.toArray).cells.toList.drop f.offset).take (P.cellsOf f.type) = [l[j]'(by omega)] := by
    rw [ho, hk]
    show (l.drop j).take 1 = _
    rw [List.drop_eq_getElem_cons (by omega)]
    rfl
  rw [e, List.getElem?_eq_getElem (by omega : j < xs.length)] at h1
  exact ⟨_, _, List.getElem?_eq_getElem (by omega), h1⟩

theorem field_ints {t e : TypeId} {fuel : Nat} {c : Value} {x : DataW H × List MemPlace} (ht : P.underlying t = some (.slice e)) (he : P.underlying e = some (.int .i64)) (hc : P.cellsOf e = 1)
    (h : DataW.trod enc P w base spare held fuel t [c] = some x) : ∃ a len cap zs, c = .slice a len cap ∧ IntsAt w a len zs := by
  rcases open_ints ht he hc h with ⟨hcs, -⟩ | ⟨a, len, cap, zs, hcs, -, hl, hm, hz, -, hcell, hwz⟩
  · obtain rfl := (List.cons.inj hcs).1
    exact ⟨_, _, _, _, rfl, IntsAt.nil _ _⟩
  · obtain rfl := (List.cons.inj hcs).1
    refine ⟨_, _, cap, zs.take len, rfl, ?_⟩
    by_cases hs : zs.length = cap
    · exact IntsAt.of_row hl hm hs hcell hwz
    · have hz' : zs.length = len := by
        split at hz
        · exact absurd hz hs
        · exact hz
      exact IntsAt.of_row (cap := len) (Nat.le_refl _) (by omega) hz' hcell hwz

theorem field_int {t : TypeId} {fuel : Nat} {c : Value} {x : DataW H × List MemPlace} (ht : P.underlying t = some (.int .i64))
    (h : DataW.trod enc P w base spare held fuel t [c] = some x) : ∃ n, c = .int .i64 n ∧ -9223372036854775808 ≤ n ∧ n ≤ 9223372036854775807 := by
  obtain ⟨n, hcs, -, hw⟩ := DataW.trod_int ht h
  obtain rfl := (List.cons.inj hcs).1
  exact ⟨n, rfl, bounds_i64 hw⟩
end
theorem list2 {α : Type} {l : List α} {a0 a1 : α} (h : l.length = 2) (h0 : l[0]? = some a0) (h1 : l[1]? = some a1) : l = [a0, a1] := by
  match l, h with
  | [_, _], _ => simp_all
theorem list3 {α : Type} {l : List α} {a0 a1 a2 : α} (h : l.length = 3) (h0 : l[0]? = some a0) (h1 : l[1]? = some a1) (h2 : l[2]? = some a2) : l = [a0, a1, a2] := by
  match l, h with
  | [_, _, _], _ => simp_all
theorem list4 {α : Type} {l : List α} {a0 a1 a2 a3 : α} (h : l.length = 4) (h0 : l[0]? = some a0) (h1 : l[1]? = some a1) (h2 : l[2]? = some a2) (h3 : l[3]? = some a3) : l = [a0, a1, a2, a3] := by
  match l, h with
  | [_, _, _, _], _ => simp_all
theorem list5 {α : Type} {l : List α} {a0 a1 a2 a3 a4 : α} (h : l.length = 5) (h0 : l[0]? = some a0) (h1 : l[1]? = some a1) (h2 : l[2]? = some a2) (h3 : l[3]? = some a3) (h4 : l[4]? = some a4) : l = [a0, a1, a2, a3, a4] := by
  match l, h with
  | [_, _, _, _, _], _ => simp_all
theorem list6 {α : Type} {l : List α} {a0 a1 a2 a3 a4 a5 : α} (h : l.length = 6) (h0 : l[0]? = some a0) (h1 : l[1]? = some a1) (h2 : l[2]? = some a2) (h3 : l[3]? = some a3) (h4 : l[4]? = some a4) (h5 : l[5]? = some a5) : l = [a0, a1, a2, a3, a4, a5] := by
  match l, h with
  | [_, _, _, _, _, _], _ => simp_all
theorem list7 {α : Type} {l : List α} {a0 a1 a2 a3 a4 a5 a6 : α} (h : l.length = 7) (h0 : l[0]? = some a0) (h1 : l[1]? = some a1) (h2 : l[2]? = some a2) (h3 : l[3]? = some a3) (h4 : l[4]? = some a4) (h5 : l[5]? = some a5) (h6 : l[6]? = some a6) : l = [a0, a1, a2, a3, a4, a5, a6] := by
  match l, h with
  | [_, _, _, _, _, _, _], _ => simp_all
theorem list8 {α : Type} {l : List α} {a0 a1 a2 a3 a4 a5 a6 a7 : α} (h : l.length = 8) (h0 : l[0]? = some a0) (h1 : l[1]? = some a1) (h2 : l[2]? = some a2) (h3 : l[3]? = some a3) (h4 : l[4]? = some a4) (h5 : l[5]? = some a5) (h6 : l[6]? = some a6) (h7 : l[7]? = some a7) : l = [a0, a1, a2, a3, a4, a5, a6, a7] := by
  match l, h with
  | [_, _, _, _, _, _, _, _], _ => simp_all
end Go.Proofs.Ytlpecdfiagklpaa
