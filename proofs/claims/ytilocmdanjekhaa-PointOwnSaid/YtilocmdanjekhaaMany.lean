/-
  Lists of new tensors: rows of one's own, apart; a slice of tensors of one's own; worlds that differ in some blocks alone.
-/
import Derived.Test.YtilocmdanjekhaaGs
import Derived.Test.YtilocmdanjekhaaTenC
import Derived.Test.YtilocmdanjekhaaOnly
namespace Go.Proofs.Ytilocmdanjekhaa
open Go.RowKit
set_option linter.unusedVariables false
set_option linter.unusedSimpArgs false

/-- The cells of a slice of tensors. -/
def gcells : List TV → List Value
  | [] => []
  | t :: r => .slice t.sa t.sl t.sc :: .slice t.ca t.cl t.cc :: gcells r
theorem gcells_length (ts : List TV) : (gcells ts).length = ts.length * 2 := by
  induction ts with
  | nil => rfl
  | cons t r ih => simp only [gcells, List.length_cons, ih]; omega
theorem gcells_get {ts : List TV} {j : Nat} {t : TV} (h : ts[j]? = some t) : (gcells ts)[j * 2]? = some (.slice t.sa t.sl t.sc) ∧ (gcells ts)[j * 2 + 1]? = some (.slice t.ca t.cl t.cc) := by
  induction ts generalizing j with
  | nil => simp at h
  | cons x r ih =>
    cases j with
    | zero => simp at h; subst h; exact ⟨rfl, rfl⟩
    | succ j =>
      have := ih (j := j) (by simpa using h)
      rw [show (j + 1) * 2 = j * 2 + 1 + 1 by omega]
      exact ⟨by simpa [gcells] using this.1, by simpa [gcells] using this.2⟩
theorem gcells_append (ts us : List TV) : gcells (ts ++ us) = gcells ts ++ gcells us := by
  induction ts with
  | nil => rfl
  | cons t r ih => simp only [List.cons_append, gcells, ih]
def nilS : Value := .slice none 0 0
/-- The first tensors, then places that hold none. -/
def gpart (ts : List TV) (n : Nat) : List Value := gcells ts ++ List.replicate ((n - ts.length) * 2) nilS
theorem gpart_length {ts : List TV} {n : Nat} (h : ts.length ≤ n) : (gpart ts n).length = n * 2 := by
  unfold gpart; rw [List.length_append, gcells_length, List.length_replicate]; omega
theorem gpart_nil (n : Nat) : gpart [] n = List.replicate (n * 2) nilS := by simp [gpart, gcells]
theorem gpart_full {ts : List TV} {n : Nat} (h : ts.length = n) : gpart ts n = gcells ts := by simp [gpart, h]
theorem gpart_next {ts : List TV} {n : Nat} (h : ts.length < n) : (gpart ts n)[ts.length * 2]? = some nilS ∧ (gpart ts n)[ts.length * 2 + 1]? = some nilS := by
  unfold gpart
  constructor
  · rw [List.getElem?_append_right (by rw [gcells_length]; omega), gcells_length, List.getElem?_replicate, if_pos (by omega)]
  · rw [List.getElem?_append_right (by rw [gcells_length]; omega), gcells_length, List.getElem?_replicate, if_pos (by omega)]
theorem gpart_set {ts : List TV} {n : Nat} (h : ts.length < n) (t : TV) : ((gpart ts n).set (ts.length * 2) (.slice t.sa t.sl t.sc)).set (ts.length * 2 + 1) (.slice t.ca t.cl t.cc) = gpart (ts ++ [t]) n := by
  unfold gpart
  rw [List.set_append_right _ _ (by rw [gcells_length]; omega), List.set_append_right _ _ (by rw [gcells_length]; omega), gcells_length, Nat.sub_self, show ts.length * 2 + 1 - ts.length * 2 = 1 by omega,
    show (n - ts.length) * 2 = (n - (ts ++ [t]).length) * 2 + 1 + 1 by rw [List.length_append]; simp; omega, List.replicate_succ, List.replicate_succ, gcells_append]
  simp [gcells]

/-- The blocks in which a tensor's rows lie. -/
def tblocks (t : TV) : List Nat := (t.sa.map (·.block)).toList ++ (t.ca.map (·.block)).toList
theorem tblocks_mem {t : TV} {b : Nat} : b ∈ tblocks t ↔ (∃ p, t.sa = some p ∧ p.block = b) ∨ (∃ p, t.ca = some p ∧ p.block = b) := by
  unfold tblocks
  cases t.sa <;> cases t.ca <;> simp [eq_comm]
/-- A tensor's rows are one's own. -/
def OwnV (w : World) (B : Nat) (t : TV) : Prop :=
  w.ownsRow B 3 1 (.slice t.sa t.sl t.sc) t.sl (t.ss.map (Value.int .i64)) ∧ w.ownsRow B 22 1 (.slice t.ca t.cl t.cc) t.cl (t.cs.map (Value.int .i64))
theorem OwnV.lt {w : World} {B : Nat} {t : TV} (h : OwnV w B t) {b : Nat} (hb : b ∈ tblocks t) : B ≤ b ∧ b < w.heap.size := by
  rcases tblocks_mem.1 hb with ⟨p, hp, rfl⟩ | ⟨p, hp, rfl⟩
  · exact h.1.lt p.block (by rw [hp]; rfl)
  · exact h.2.lt p.block (by rw [hp]; rfl)
theorem OwnV.kept {w w' : World} {B : Nat} {t : TV} (h : OwnV w B t) (hb : Below w.heap.size w w') : OwnV w' B t := ⟨row_kept h.1 hb, row_kept h.2 hb⟩
theorem OwnV.le {w : World} {B B' : Nat} {t : TV} (h : OwnV w B t) (hb : B' ≤ B) : OwnV w B' t := ⟨Joins.ownsRow_le h.1 hb, Joins.ownsRow_le h.2 hb⟩
theorem OwnV.far {w : World} {B : Nat} {t : TV} (h : OwnV w B t) {p : Addr} (v : Value) (hp : p.block < B) : OwnV (w.setCell p v) B t := ⟨row_far h.1 hp, row_far h.2 hp⟩
theorem OwnV.at {w : World} {B : Nat} {t : TV} (h : OwnV w B t) (f1 : Fits t.ss) (f2 : Fits t.cs) (l1 : t.sl ≤ 17592186044416) (l2 : t.cl ≤ 17592186044416) : t.At w :=
  ⟨row_ints h.1 (by omega) f1, row_ints h.2 (by omega) f2, l1, l2⟩

/-- New tensors, apart. -/
structure Many (w : World) (B : Nat) (ts : List TV) : Prop where
  own : ∀ t ∈ ts, OwnV w B t
  apart : (ts.flatMap tblocks).Nodup
theorem Many.nil (w : World) (B : Nat) : Many w B [] := ⟨fun t ht => (List.not_mem_nil ht).elim, by simp⟩
theorem Many.kept {w w' : World} {B : Nat} {ts : List TV} (h : Many w B ts) (hb : Below w.heap.size w w') : Many w' B ts := ⟨fun t ht => (h.own t ht).kept hb, h.apart⟩
theorem Many.le {w : World} {B B' : Nat} {ts : List TV} (h : Many w B ts) (hb : B' ≤ B) : Many w B' ts := ⟨fun t ht => (h.own t ht).le hb, h.apart⟩
theorem Many.far {w : World} {B : Nat} {ts : List TV} (h : Many w B ts) {p : Addr} (v : Value) (hp : p.block < B) : Many (w.setCell p v) B ts := ⟨fun t ht => (h.own t ht).far v hp, h.apart⟩
theorem Many.add {w w' : World} {B : Nat} {ts : List TV} (h : Many w B ts) (hB : B ≤ w.heap.size) {sl cl : Nat} {ss cs : List Int} {v : Value} (hn : NewT w sl ss cl cs v w') :
    ∃ t : TV, v = .agg #[.slice t.sa t.sl t.sc, .slice t.ca t.cl t.cc] ∧ t.sl = sl ∧ t.ss = ss ∧ t.cl = cl ∧ t.cs = cs ∧ Many w' B (ts ++ [t]) := by
  obtain ⟨A, c, A', c', rfl, o1, o2, hne, hb⟩ := hn
  refine ⟨⟨A, sl, c, ss, A', cl, c', cs⟩, rfl, rfl, rfl, rfl, rfl, ?_, ?_⟩
  · intro t ht
    rcases List.mem_append.1 ht with ht | ht
    · exact (h.own t ht).kept hb
    · rw [List.mem_singleton] at ht
      subst ht
      exact ⟨Joins.ownsRow_le o1 hB, Joins.ownsRow_le o2 hB⟩
  · rw [List.flatMap_append, List.flatMap_singleton, List.nodup_append]
    refine ⟨h.apart, ?_, ?_⟩
    · unfold tblocks
      cases A with
      | none => cases A' <;> simp
      | some p => cases A' with
        | none => simp
        | some q => simpa using hne p q rfl rfl
    · intro b hb1 b' hb2 e
      subst e
      obtain ⟨t, ht, hbt⟩ := List.mem_flatMap.1 hb1
      have l1 := ((h.own t ht).lt hbt).2
      rcases tblocks_mem.1 hb2 with ⟨p, hp, rfl⟩ | ⟨p, hp, rfl⟩
      · have := (o1.lt p.block (by have hp' : A = some p := hp; rw [hp']; rfl)).1
        omega
      · have := (o2.lt p.block (by have hp' : A' = some p := hp; rw [hp']; rfl)).1
        omega
theorem tblocks_apart {t : TV} (h : (tblocks t).Nodup) {p q : Addr} (hp : t.sa = some p) (hq : t.ca = some q) : p.block ≠ q.block := by
  unfold tblocks at h
  rw [hp, hq] at h
  simpa using h
theorem nodup1 {v : TV} (h : ([v].flatMap tblocks).Nodup) : (tblocks v).Nodup := by
  rw [List.flatMap_singleton] at h; exact h
theorem nodup2 {v1 v2 : TV} (h : ([v1, v2].flatMap tblocks).Nodup) : (tblocks v1).Nodup ∧ (tblocks v2).Nodup ∧ ∀ x ∈ tblocks v1, ∀ y ∈ tblocks v2, x ≠ y := by
  rw [List.flatMap_cons, List.flatMap_singleton, List.nodup_append] at h
  exact h
theorem gsat_of {w : World} {B g : Nat} {len cap : Nat} {ts : List TV} (h : w.ownsRow B 30 2 (.slice (some ⟨g, 0, none⟩) len cap) len (gcells ts)) (hl : len ≤ 1000) (hm : ∀ t ∈ ts, t.At w) : GsAt w (some ⟨g, 0, none⟩) len ts := by
  have hlen : ts.length = len := by have := h.1; rw [gcells_length] at this; omega
  refine ⟨hlen, by omega, hm, .inr ⟨g, 0, rfl, fun j t hj => ?_⟩⟩
  have hjl : j < ts.length := (List.getElem?_eq_some_iff.1 hj).1
  rw [Nat.zero_add, h.cellAt (j * 2) (by omega), h.cellAt (j * 2 + 1) (by omega)]
  exact gcells_get hj

/-- Some blocks alone may have changed. -/
structure OnlyS (s : Nat → Prop) (w w' : World) : Prop where
  os : w'.os = w.os
  tape : w'.tape = w.tape
  output : w'.output = w.output
  size : w'.heap.size = w.heap.size
  block : ∀ k, ¬ s k → w'.heap[k]? = w.heap[k]?
theorem OnlyS.refl (s : Nat → Prop) (w : World) : OnlyS s w w := ⟨rfl, rfl, rfl, rfl, fun _ _ => rfl⟩
theorem OnlyS.setCell {s : Nat → Prop} {w w' : World} (h : OnlyS s w w') {g : Nat} (hg : s g) (j : Nat) (v : Value) : OnlyS s w (w'.setCell ⟨g, j, none⟩ v) := by
  have hb : Below 0 w' (w'.setCell ⟨g, j, none⟩ v) := (Below.refl 0 w').setCell (Nat.zero_le _) v
  refine ⟨hb.os.trans h.os, hb.tape.trans h.tape, hb.output.trans h.output, ?_, fun k hk => (Below.heap_setCell w' ⟨g, j, none⟩ v k (fun e => hk (by rw [e]; exact hg))).trans (h.block k hk)⟩
  rw [← h.size]; simp
theorem OnlyS.drew {s : Nat → Prop} {w w' : World} (h : OnlyS s w w') : OnlyS s w w'.drew := ⟨h.os, h.tape, h.output, h.size, h.block⟩
theorem OnlyS.below {s : Nat → Prop} {B : Nat} {w0 w w' : World} (h : OnlyS s w w') (hb : Below B w0 w) (hg : ∀ k, s k → B ≤ k) : Below B w0 w' :=
  ⟨h.os.trans hb.os, h.tape.trans hb.tape, h.output.trans hb.output, by rw [h.size]; exact hb.size, fun k hk => (h.block k (fun hs => by have := hg k hs; omega)).trans (hb.block k hk)⟩
theorem OnlyS.gat {s : Nat → Prop} {B : Nat} {w w' : World} {x c : Value} (h : OnlyS s w w') (hG : GAt w B x c) (hB : ¬ s B) : GAt w' B x c := (h.block B hB).trans hG
theorem OnlyS.row {s : Nat → Prop} {B : Nat} {w w' : World} {e : TypeId} {k : Nat} {v : Value} {n : Nat} {xs : List Value} (hO : OnlyS s w w') (h : w.ownsRow B e k v n xs) (hg : ∀ q, v.ownBlock = some q → ¬ s q) : w'.ownsRow B e k v n xs := by
  rcases h.2 with h2 | ⟨g', cap, cur, hv, hbg, hg', rest⟩
  · exact ⟨h.1, .inl h2⟩
  · exact ⟨h.1, .inr ⟨g', cap, cur, hv, hbg, (hO.block g' (hg g' (by rw [hv]; rfl))).trans hg', rest⟩⟩
end Go.Proofs.Ytilocmdanjekhaa
