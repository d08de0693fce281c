import Derived.Test.YtieegaojcjhfdaaJ02
import Derived.Test.YtieegaojcjhfdaaJ03
import Derived.Deep.DeepCutAuto
import Derived.Deep.CutBlock
import Derived.LoopTactic
import Derived.WalkSmall
/-
  Lists of new tensors: rows of one's own, apart; a slice of tensors of one's own; worlds that differ in some blocks alone.
-/
namespace Go.Proofs.Ytieegaojcjhfdaa
open Go.RowKit
set_option linter.unusedVariables false
set_option linter.unusedSimpArgs false

/-- The cells of a slice of tensors. -/
def gcells : List TV → List Value
  | [] => []
  | t :: r => .slice t.sa t.sl t.sc :: .slice t.ca t.cl t.cc :: gcells r
theorem gcells_length (ts : List TV) : (gcells ts).length = ts.length * 2 := by
  induction ts with
  | nil => rfl
  | cons t r ih => simp only [gcells, List.length_cons, ih]; omega
theorem gcells_get {ts : List TV} {j : Nat} {t : TV} (h : ts[j]? = some t) : (gcells ts)[j * 2]? = some (.slice t.sa t.sl t.sc) ∧ (gcells ts)[j * 2 + 1]? = some (.slice t.ca t.cl t.cc) := by
  induction ts generalizing j with
  | nil => simp at h
  | cons x r ih =>
    cases j with
    | zero => simp at h; subst h; exact ⟨rfl, rfl⟩
    | succ j =>
      have := ih (j := j) (by simpa using h)
      rw [show (j + 1) * 2 = j * 2 + 1 + 1 by omega]
      exact ⟨by simpa [gcells] using this.1, by simpa [gcells] using this.2⟩
theorem gcells_append (ts us : List TV) : gcells (ts ++ us) = gcells ts ++ gcells us := by
  induction ts with
  | nil => rfl
  | cons t r ih => simp only [List.cons_append, gcells, ih]
def nilS : Value := .slice none 0 0
/-- The first tensors, then places that hold none. -/
def gpart (ts : List TV) (n : Nat) : List Value := gcells ts ++ List.replicate ((n - ts.length) * 2) nilS
theorem gpart_length {ts : List TV} {n : Nat} (h : ts.length ≤ n) : (gpart ts n).length = n * 2 := by
  unfold gpart; rw [List.length_append, gcells_length, List.length_replicate]; omega
theorem gpart_nil (n : Nat) : gpart [] n = List.replicate (n * 2) nilS := by simp [gpart, gcells]
theorem gpart_full {ts : List TV} {n : Nat} (h : ts.length = n) : gpart ts n = gcells ts := by simp [gpart, h]
theorem gpart_next {ts : List TV} {n : Nat} (h : ts.length < n) : (gpart ts n)[ts.length * 2]? = some nilS ∧ (gpart ts n)[ts.length * 2 + 1]? = some nilS := by
  unfold gpart
  constructor
  · rw [List.getElem?_append_right (by rw [gcells_length]; omega), gcells_length, List.getElem?_replicate, if_pos (by omega)]
  · rw [List.getElem?_append_right (by rw [gcells_length]; omega), gcells_length, List.getElem?_replicate, if_pos (by omega)]
theorem gpart_set {ts : List TV} {n : Nat} (h : ts.length < n) (t : TV) : ((gpart ts n).set (ts.length * 2) (.slice t.sa t.sl t.sc)).set (ts.length * 2 + 1) (.slice t.ca t.cl t.cc) = gpart (ts ++ [t]) n := by
  unfold gpart
  rw [List.set_append_right _ _ (by rw [gcells_length]; omega), List.set_append_right _ _ (by rw [gcells_length]; omega), gcells_length, Nat.sub_self, show ts.length * 2 + 1 - ts.length * 2 = 1 by omega,
    show (n - ts.length) * 2 = (n - (ts ++ [t]).length) * 2 + 1 + 1 by rw [List.length_append]; simp; omega, List.replicate_succ, List.replicate_succ, gcells_append]
  simp [gcells]

/-- The blocks in which a tensor's rows lie. -/
def tblocks (t : TV) : List Nat := (t.sa.map (·.block)).toList ++ (t.ca.map (·.block)).toList
theorem tblocks_mem {t : TV} {b : Nat} : b ∈ tblocks t ↔ (∃ p, t.sa = some p ∧ p.block = b) ∨ (∃ p, t.ca = some p ∧ p.block = b) := by
  unfold tblocks
  cases t.sa <;> cases t.ca <;> simp [eq_comm]
/-- A tensor's rows are one's own. -/
def OwnV (w : World) (B : Nat) (t : TV) : Prop :=
  w.ownsRow B 3 1 (.slice t.sa t.sl t.sc) t.sl (t.ss.map (Value.int .i64)) ∧ w.ownsRow B 35 1 (.slice t.ca t.cl t.cc) t.cl (t.cs.map (Value.int .i64))
theorem OwnV.lt {w : World} {B : Nat} {t : TV} (h : OwnV w B t) {b : Nat} (hb : b ∈ tblocks t) : B ≤ b ∧ b < w.heap.size := by
  rcases tblocks_mem.1 hb with ⟨p, hp, rfl⟩ | ⟨p, hp, rfl⟩
  · exact h.1.lt p.block (by rw [hp]; rfl)
  · exact h.2.lt p.block (by rw [hp]; rfl)
theorem OwnV.kept {w w' : World} {B : Nat} {t : TV} (h : OwnV w B t) (hb : Below w.heap.size w w') : OwnV w' B t := ⟨row_kept h.1 hb, row_kept h.2 hb⟩
theorem OwnV.le {w : World} {B B' : Nat} {t : TV} (h : OwnV w B t) (hb : B' ≤ B) : OwnV w B' t := ⟨Joins.ownsRow_le h.1 hb, Joins.ownsRow_le h.2 hb⟩
theorem OwnV.far {w : World} {B : Nat} {t : TV} (h : OwnV w B t) {p : Addr} (v : Value) (hp : p.block < B) : OwnV (w.setCell p v) B t := ⟨row_far h.1 hp, row_far h.2 hp⟩
theorem OwnV.at {w : World} {B : Nat} {t : TV} (h : OwnV w B t) (f1 : Fits t.ss) (f2 : Fits t.cs) (l1 : t.sl ≤ 17592186044416) (l2 : t.cl ≤ 17592186044416) : t.At w :=
  ⟨row_ints h.1 (by omega) f1, row_ints h.2 (by omega) f2, l1, l2⟩

/-- New tensors, apart. -/
structure Many (w : World) (B : Nat) (ts : List TV) : Prop where
  own : ∀ t ∈ ts, OwnV w B t
  apart : (ts.flatMap tblocks).Nodup
theorem Many.nil (w : World) (B : Nat) : Many w B [] := ⟨fun t ht => (List.not_mem_nil ht).elim, by simp⟩
theorem Many.kept {w w' : World} {B : Nat} {ts : List TV} (h : Many w B ts) (hb : Below w.heap.size w w') : Many w' B ts := ⟨fun t ht => (h.own t ht).kept hb, h.apart⟩
theorem Many.le {w : World} {B B' : Nat} {ts : List TV} (h : Many w B ts) (hb : B' ≤ B) : Many w B' ts := ⟨fun t ht => (h.own t ht).le hb, h.apart⟩
theorem Many.far {w : World} {B : Nat} {ts : List TV} (h : Many w B ts) {p : Addr} (v : Value) (hp : p.block < B) : Many (w.setCell p v) B ts := ⟨fun t ht => (h.own t ht).far v hp, h.apart⟩
theorem Many.add {w w' : World} {B : Nat} {ts : List TV} (h : Many w B ts) (hB : B ≤ w.heap.size) {sl cl : Nat} {ss cs : List Int} {v : Value} (hn : NewT w sl ss cl cs v w') :
    ∃ t : TV, v = .agg #[.slice t.sa t.sl t.sc, .slice t.ca t.cl t.cc] ∧ t.sl = sl ∧ t.ss = ss ∧ t.cl = cl ∧ t.cs = cs ∧ Many w' B (ts ++ [t]) := by
  obtain ⟨A, c, A', c', rfl, o1, o2, hne, hb⟩ := hn
  refine ⟨⟨A, sl, c, ss, A', cl, c', cs⟩, rfl, rfl, rfl, rfl, rfl, ?_, ?_⟩
  · intro t ht
    rcases List.mem_append.1 ht with ht | ht
    · exact (h.own t ht).kept hb
    · rw [List.mem_singleton] at ht
      subst ht
      exact ⟨Joins.ownsRow_le o1 hB, Joins.ownsRow_le o2 hB⟩
  · rw [List.flatMap_append, List.flatMap_singleton, List.nodup_append]
    refine ⟨h.apart, ?_, ?_⟩
    · unfold tblocks
      cases A with
      | none => cases A' <;> simp
      | some p => cases A' with
        | none => simp
        | some q => simpa using hne p q rfl rfl
    · intro b hb1 b' hb2 e
      subst e
      obtain ⟨t, ht, hbt⟩ := List.mem_flatMap.1 hb1
      have l1 := ((h.own t ht).lt hbt).2
      rcases tblocks_mem.1 hb2 with ⟨p, hp, rfl⟩ | ⟨p, hp, rfl⟩
      · have := (o1.lt p.block (by have hp' : A = some p := hp; rw [hp']; rfl)).1
        omega
      · have := (o2.lt p.block (by have hp' : A' = some p := hp; rw [hp']; rfl)).1
        omega
theorem tblocks_apart {t : TV} (h : (tblocks t).Nodup) {p q : Addr} (hp : t.sa = some p) (hq : t.ca = some q) : p.block ≠ q.block := by
  unfold tblocks at h
  rw [hp, hq] at h
  simpa using h
theorem nodup1 {v : TV} (h : ([v].flatMap tblocks).Nodup) : (tblocks v).Nodup := by
  rw [List.flatMap_singleton] at h; exact h
theorem nodup2 {v1 v2 : TV} (h : ([v1, v2].flatMap tblocks).Nodup) : (tblocks v1).Nodup ∧ (tblocks v2).Nodup ∧ ∀ x ∈ tblocks v1, ∀ y ∈ tblocks v2, x ≠ y := by
  rw [List.flatMap_cons, List.flatMap_singleton, List.nodup_append] at h
  exact h
theorem gsat_of {w : World} {B g : Nat} {len cap : Nat} {ts : List TV} (h : w.ownsRow B 29 2 (.slice (some ⟨g, 0, none⟩) len cap) len (gcells ts)) (hl : len ≤ 1000) (hm : ∀ t ∈ ts, t.At w) : GsAt w (some ⟨g, 0, none⟩) len ts := by
  have hlen : ts.length = len := by have := h.1; rw [gcells_length] at this; omega
  refine ⟨hlen, by omega, hm, .inr ⟨g, 0, rfl, fun j t hj => ?_⟩⟩
  have hjl : j < ts.length := (List.getElem?_eq_some_iff.1 hj).1
  rw [Nat.zero_add, h.cellAt (j * 2) (by omega), h.cellAt (j * 2 + 1) (by omega)]
  exact gcells_get hj

/-- Some blocks alone may have changed. -/
structure OnlyS (s : Nat → Prop) (w w' : World) : Prop where
  os : w'.os = w.os
  tape : w'.tape = w.tape
  output : w'.output = w.output
  size : w'.heap.size = w.heap.size
  block : ∀ k, ¬ s k → w'.heap[k]? = w.heap[k]?
theorem OnlyS.refl (s : Nat → Prop) (w : World) : OnlyS s w w := ⟨rfl, rfl, rfl, rfl, fun _ _ => rfl⟩
theorem OnlyS.setCell {s : Nat → Prop} {w w' : World} (h : OnlyS s w w') {g : Nat} (hg : s g) (j : Nat) (v : Value) : OnlyS s w (w'.setCell ⟨g, j, none⟩ v) := by
  have hb : Below 0 w' (w'.setCell ⟨g, j, none⟩ v) := (Below.refl 0 w').setCell (Nat.zero_le _) v
  refine ⟨hb.os.trans h.os, hb.tape.trans h.tape, hb.output.trans h.output, ?_, fun k hk => (Below.heap_setCell w' ⟨g, j, none⟩ v k (fun e => hk (by rw [e]; exact hg))).trans (h.block k hk)⟩
  rw [← h.size]; simp
theorem OnlyS.drew {s : Nat → Prop} {w w' : World} (h : OnlyS s w w') : OnlyS s w w'.drew := ⟨h.os, h.tape, h.output, h.size, h.block⟩
theorem OnlyS.below {s : Nat → Prop} {B : Nat} {w0 w w' : World} (h : OnlyS s w w') (hb : Below B w0 w) (hg : ∀ k, s k → B ≤ k) : Below B w0 w' :=
  ⟨h.os.trans hb.os, h.tape.trans hb.tape, h.output.trans hb.output, by rw [h.size]; exact hb.size, fun k hk => (h.block k (fun hs => by have := hg k hs; omega)).trans (hb.block k hk)⟩
theorem OnlyS.gat {s : Nat → Prop} {B : Nat} {w w' : World} {x c : Value} (h : OnlyS s w w') (hG : GAt w B x c) (hB : ¬ s B) : GAt w' B x c := (h.block B hB).trans hG
theorem OnlyS.row {s : Nat → Prop} {B : Nat} {w w' : World} {e : TypeId} {k : Nat} {v : Value} {n : Nat} {xs : List Value} (hO : OnlyS s w w') (h : w.ownsRow B e k v n xs) (hg : ∀ q, v.ownBlock = some q → ¬ s q) : w'.ownsRow B e k v n xs := by
  rcases h.2 with h2 | ⟨g', cap, cur, hv, hbg, hg', rest⟩
  · exact ⟨h.1, .inl h2⟩
  · exact ⟨h.1, .inr ⟨g', cap, cur, hv, hbg, (hO.block g' (hg g' (by rw [hv]; rfl))).trans hg', rest⟩⟩
end Go.Proofs.Ytieegaojcjhfdaa

/-
  Contracts over tensors as values: package tensor's Cut, Join, Of, Make, Copy; package move's alone, Cut, isGradient, Turn, TurnBack.
-/
namespace Go.Proofs.Ytieegaojcjhfdaa
open Go.RowKit
set_option linter.unusedVariables false
set_option linter.unusedSimpArgs false

/-- A tensor that can be read. -/
def Good (t : TV) (w : World) : Prop := t.At w ∧ t.Cap ∧ t.CapS
theorem Good.kept {t : TV} {w w' : World} (h : Good t w) (hb : Below w.heap.size w w') : Good t w' := ⟨h.1.kept hb, h.2⟩
/-- A tensor's shape and cells. -/
def pr (t : TV) : Pr := (t.ss, t.cs)
theorem Good.len {t : TV} {w : World} (h : Good t w) : t.cs.length = t.cl := h.1.2.1.1
theorem Good.slen {t : TV} {w : World} (h : Good t w) : t.ss.length = t.sl := h.1.1.1
theorem Good.ok {t : TV} {w : World} (h : Good t w) : okP (pr t) = rightT t.ss t.cl := by unfold okP pr; rw [h.len]
/-- Where a tensor's rows lie. -/
def Lies (t : TV) (lo hi : Nat) : Prop := ∀ b ∈ tblocks t, lo ≤ b ∧ b < hi
theorem Lies.le {t : TV} {lo hi lo' hi' : Nat} (h : Lies t lo hi) (h1 : lo' ≤ lo) (h2 : hi ≤ hi') : Lies t lo' hi' := fun b hb => ⟨Nat.le_trans h1 (h b hb).1, Nat.lt_of_lt_of_le (h b hb).2 h2⟩
theorem ints_apart {w w' : World} {a : Option Addr} {n : Nat} {zs : List Int} (h : IntsAt w a n zs) (hg : ∀ q, a = some q → w'.heap[q.block]? = w.heap[q.block]?) : IntsAt w' a n zs := by
  obtain ⟨h1, h2, h3, h4⟩ := h
  refine ⟨h1, h2, h3, ?_⟩
  rcases h4 with h4 | ⟨b, off, ha, hc⟩
  · exact .inl h4
  · refine .inr ⟨b, off, ha, fun j hj => ?_⟩
    rw [World.cell?_of_block (w := w) (w' := w') (a := ⟨b, off + j, none⟩) (hg ⟨b, off, none⟩ ha)]
    exact hc j hj
theorem Good.apart {t : TV} {w w' : World} (h : Good t w) (hg : ∀ b ∈ tblocks t, w'.heap[b]? = w.heap[b]?) : Good t w' :=
  ⟨⟨ints_apart h.1.1 (fun q hq => hg _ (tblocks_mem.2 (.inl ⟨q, hq, rfl⟩))), ints_apart h.1.2.1 (fun q hq => hg _ (tblocks_mem.2 (.inr ⟨q, hq, rfl⟩))), h.1.2.2⟩, h.2⟩
theorem Good.set {t : TV} {w : World} {p : Addr} (v : Value) (h : Good t w) (hp : ∀ b ∈ tblocks t, b ≠ p.block) : Good t (w.setCell p v) := h.apart (fun b hb => Below.heap_setCell w p v b (hp b hb))
/-- The rows of a valid tensor lie in blocks that are there. -/
theorem Good.lt {t : TV} {w : World} (h : Good t w) (ho : rightT t.ss t.cl = true) : Lies t 0 w.heap.size := by
  intro b hb
  refine ⟨Nat.zero_le _, ?_⟩
  have hs := (rightS_parts (rightT_parts ho).1).1
  have hc := rightT_pos ho
  rcases tblocks_mem.1 hb with ⟨q, hq, rfl⟩ | ⟨q, hq, rfl⟩
  · rcases h.1.1.2.2.2 with h4 | ⟨b, off, ha, hx⟩
    · have := h.slen; omega
    · rw [hq] at ha; cases ha
      exact World.block_lt_of_cell? w _ (hx 0 (by have := h.slen; omega))
  · rcases h.1.2.1.2.2.2 with h4 | ⟨b, off, ha, hx⟩
    · omega
    · rw [hq] at ha; cases ha
      exact World.block_lt_of_cell? w _ (hx 0 hc)
/-- A new tensor and an error came back. -/
def TRes (w : World) (r : Int × Pr) (e : Ending) (w' : World) : Prop :=
  ∃ t : TV, e = .returned (.tuple #[.agg #[.slice t.sa t.sl t.sc, .slice t.ca t.cl t.cc], .int .i64 r.1]) ∧ pr t = r.2 ∧ Good t w' ∧ Lies t w.heap.size w'.heap.size ∧ Below w.heap.size w w'
theorem fits_right {l : List Int} (h : rightS l = true) : Fits l := by
  intro n hn
  have := inR_bounds (List.all_eq_true.1 (rightS_parts h).2.2.1 n hn)
  omega
theorem tres_nil {w w' : World} {x : Int} {e : Ending} (h : NilT w x e w') : TRes w (x, nilP) e w' := by
  obtain ⟨rfl, hb⟩ := h
  exact ⟨⟨none, 0, 0, [], none, 0, 0, []⟩, rfl, rfl, ⟨⟨IntsAt.nil _ _, IntsAt.nil _ _, Nat.zero_le _, Nat.zero_le _⟩, ⟨Nat.le_refl _, Nat.zero_le _⟩, Nat.le_refl _, Nat.zero_le _⟩, (fun b hb => by simp [tblocks] at hb), hb⟩
theorem new_tv {w w' : World} {sl cl : Nat} {ss cs : List Int} {v : Value} (h : NewT w sl ss cl cs v w') (f1 : Fits ss) (f2 : Fits cs) (l1 : sl ≤ 17592186044416) (l2 : cl ≤ 17592186044416) :
    ∃ t : TV, v = .agg #[.slice t.sa t.sl t.sc, .slice t.ca t.cl t.cc] ∧ pr t = (ss, cs) ∧ Good t w' ∧ Lies t w.heap.size w'.heap.size ∧ Below w.heap.size w w' := by
  obtain ⟨A, c, A', c', rfl, o1, o2, hne, hb⟩ := h
  refine ⟨⟨A, sl, c, ss, A', cl, c', cs⟩, rfl, rfl, ⟨⟨row_ints o1 (Nat.le_trans l1 (by decide)) f1, row_ints o2 (Nat.le_trans l2 (by decide)) f2, l1, l2⟩, own_capped o2 (Nat.le_trans l2 (by decide)), own_capped o1 (Nat.le_trans l1 (by decide))⟩, ?_, hb⟩
  intro b hbm
  rcases tblocks_mem.1 hbm with ⟨p, hp, rfl⟩ | ⟨p, hp, rfl⟩
  · exact o1.lt p.block (by have hp' : A = some p := hp; rw [hp']; rfl)
  · exact o2.lt p.block (by have hp' : A' = some p := hp; rw [hp']; rfl)
theorem tres_ok {w w' : World} {sl cl : Nat} {ss cs : List Int} {e : Ending} (h : OkT w sl ss cl cs e w') (f1 : Fits ss) (f2 : Fits cs) (l1 : sl ≤ 17592186044416) (l2 : cl ≤ 17592186044416) : TRes w (0, (ss, cs)) e w' := by
  obtain ⟨v, rfl, hn⟩ := h
  obtain ⟨t, rfl, h1⟩ := new_tv hn f1 f2 l1 l2
  exact ⟨t, rfl, h1⟩
theorem TRes.mono {w w0 w' : World} {r : Int × Pr} {e : Ending} (h : TRes w r e w') (hb : Below w0.heap.size w0 w) : TRes w0 r e w' := by
  obtain ⟨t, rfl, h1, h2, h3, h4⟩ := h
  exact ⟨t, rfl, h1, h2, h3.le hb.size (Nat.le_refl _), hb.trans (h4.mono hb.size)⟩
/-- A result is laid into its cell. -/
theorem tres_put {w w1 w2 : World} {B : Nat} {s c : Value} {t : TV} (hb1 : Below w.heap.size w w1) (hB : w.heap.size ≤ B) (hB1 : B < w1.heap.size) (G : GAt w2 B s c) (hG : Good t w2) (hL : Lies t w1.heap.size w2.heap.size) (hb2 : Below w1.heap.size w1 w2) :
    ∃ w3, Hid ((w2.setCell ⟨B, 0, none⟩ (.slice t.sa t.sl t.sc)).setCell ⟨B, 1, none⟩ (.slice t.ca t.cl t.cc) = w3) ∧ Hid (Good t w3) ∧ Hid (Lies t w.heap.size w3.heap.size) ∧ Hid (Below w.heap.size w w3) ∧ w3.cell? ⟨B, 0, none⟩ = some (.slice t.sa t.sl t.sc) ∧ w3.cell? ⟨B, 1, none⟩ = some (.slice t.ca t.cl t.cc) := by
  have hne : ∀ b ∈ tblocks t, b ≠ B := fun b hb => by have := (hL b hb).1; omega
  obtain ⟨h0, h1, -, -⟩ := (G.set (.slice t.sa t.sl t.sc) (.slice t.ca t.cl t.cc)).see
  have hz : ((w2.setCell ⟨B, 0, none⟩ (.slice t.sa t.sl t.sc)).setCell ⟨B, 1, none⟩ (.slice t.ca t.cl t.cc)).heap.size = w2.heap.size := by simp
  refine ⟨_, Lib.hid rfl, Lib.hid ((hG.set _ hne).set _ hne), Lib.hid ?_, Lib.hid (((hb1.trans (hb2.mono hb1.size)).setCell (p := ⟨B, 0, none⟩) hB _).setCell (p := ⟨B, 1, none⟩) hB _), h0, h1⟩
  rw [hz]
  exact hL.le hb1.size (Nat.le_refl _)
theorem nil_put {w w2 : World} {B : Nat} {s c : Value} (hb : Below w.heap.size w w2) (hB : w.heap.size ≤ B) (G : GAt w2 B s c) (x : Int) :
    ∃ w3, Hid ((w2.setCell ⟨B, 0, none⟩ (.slice none 0 0)).setCell ⟨B, 1, none⟩ (.slice none 0 0) = w3) ∧ Hid (TRes w (x, nilP) (.returned (.tuple #[.agg #[.slice none 0 0, .slice none 0 0], .int .i64 x])) w3) ∧ w3.cell? ⟨B, 0, none⟩ = some (.slice none 0 0) ∧ w3.cell? ⟨B, 1, none⟩ = some (.slice none 0 0) := by
  obtain ⟨h0, h1, -, -⟩ := (G.set (.slice none 0 0) (.slice none 0 0)).see
  exact ⟨_, Lib.hid rfl, Lib.hid (tres_nil ⟨rfl, (hb.setCell (p := ⟨B, 0, none⟩) hB _).setCell (p := ⟨B, 1, none⟩) hB _⟩), h0, h1⟩

set_option maxHeartbeats 1000000 in
theorem tcut_any (t : TV) (side fr tt : Int) (w : World) (h : Good t w) (hl : t.cl ≤ 2000) :
    Calls Try.prog 17 #[.agg #[.slice t.sa t.sl t.sc, .slice t.ca t.cl t.cc], .int .i64 side, .int .i64 fr, .int .i64 tt] w (TRes w (cutR (pr t) side fr tt)) := by
  have hok := h.ok
  have hsl := h.slen
  have hcl := h.len
  cases b : rightT t.ss t.cl
  · rw [b] at hok
    have e : cutR (pr t) side fr tt = (20, nilP) := by
      have : cutE (pr t) side fr tt = 20 := by unfold cutE; rw [if_pos hok]
      unfold cutR; rw [this, if_neg (by decide)]
    rw [e]
    exact (cutT_wrong t.sa t.sl t.sc t.ss t.ca t.cl t.cc side fr tt w h.1.1 (by omega) b).mono fun _ _ h' => tres_nil h'
  rw [b] at hok
  have hr := (rightT_parts b).1
  cases d : hasD t.sl side
  · have e : cutR (pr t) side fr tt = (11, nilP) := by
      have : cutE (pr t) side fr tt = 11 := by unfold cutE; rw [if_neg (by rw [hok]; decide), if_pos (by show hasD t.ss.length side = false; rw [hsl]; exact d)]
      unfold cutR; rw [this, if_neg (by decide)]
    rw [e]
    exact (cutT_none t.sa t.sl t.sc t.ss t.ca t.cl t.cc side fr tt 11 w h.1.1 (by omega) b (by decide) (fun w1 hb => cut_side t.sa t.sl t.sc t.ss side fr tt w1 (h.1.1.kept hb) hr d)).mono fun _ _ h' => tres_nil h'
  obtain ⟨k, hk, rfl⟩ := hasD_nat d
  by_cases c : 0 ≤ fr ∧ tt ≤ t.ss.getD k 0 ∧ fr < tt
  · obtain ⟨x, P, M, hN⟩ := num_of hr (show k < t.ss.length by omega)
    obtain ⟨f, rfl⟩ : ∃ f : Nat, fr = f := ⟨fr.toNat, by omega⟩
    obtain ⟨u, rfl⟩ : ∃ f : Nat, tt = f := ⟨tt.toNat, by omega⟩
    have hu : u ≤ x := by have := hN.xE; omega
    have e1 : ((u : Int) - (f : Int)) = ((u - f : Nat) : Int) := by omega
    have C := cutT_ok t.sa t.sl t.sc t.ss t.ca t.cl t.cc t.cs k f u (x * P) M (f * P) ((u - f) * P) w h.1.1 h.2.2.1 h.2.2.2 h.1.2.1 h.2.1.1 h.2.1.2 hl b hk c.1 c.2.1 c.2.2 (by rw [hN.xE, hN.PE]; simp) hN.ME (by rw [hN.PE]; simp) (by rw [hN.PE, e1]; simp)
    rw [e1] at C
    have e := cutR_at (p := pr t) hN hok (fr := f) (tt := u) (by omega) hu
    rw [e]
    have hx := hN.x2
    refine C.mono fun _ _ h' => tres_ok h' ?_ (cutP_fits h.1.2.1.2.2.1 _ _ _ _) (by have := h.1.2.2.1; omega) ?_
    · exact h.1.1.2.2.1.set k _ (by omega) (by omega)
    · have hm : (u - f) * P ≤ x * P := Nat.mul_le_mul_right _ (by omega)
      have := Nat.mul_le_mul_left M hm
      have := hN.most
      omega
  · have e : cutR (pr t) k fr tt = (11, nilP) := by
      have : cutE (pr t) k fr tt = 11 := by unfold cutE; rw [if_neg (by rw [hok]; decide), if_neg (by show ¬ hasD t.ss.length k = false; rw [hsl, d]; decide), if_neg (by rw [Int.toNat_natCast]; exact c)]
      unfold cutR; rw [this, if_neg (by decide)]
    rw [e]
    exact (cutT_none t.sa t.sl t.sc t.ss t.ca t.cl t.cc k fr tt 11 w h.1.1 (by omega) b (by decide) (fun w1 hb => cut_part t.sa t.sl t.sc t.ss k fr tt w1 (h.1.1.kept hb) hr hk c)).mono fun _ _ h' => tres_nil h'

set_option maxHeartbeats 1000000 in
theorem tjoin_any (t u : TV) (side : Int) (w : World) (h : Good t w) (h2 : Good u w) (hl : t.cl ≤ 1000) (hl2 : u.cl ≤ 1000) :
    Calls Try.prog 12 #[.agg #[.slice t.sa t.sl t.sc, .slice t.ca t.cl t.cc], .agg #[.slice u.sa u.sl u.sc, .slice u.ca u.cl u.cc], .int .i64 side] w (TRes w (joinR (pr t) (pr u) side)) := by
  have hok := h.ok
  have hsl := h.slen
  have hok2 := h2.ok
  have hsl2 := h2.slen
  have no : ∀ x : Int, x ≠ 0 → joinE (pr t) (pr u) side = x → joinR (pr t) (pr u) side = (x, nilP) := fun x hx e => by unfold joinR; rw [e, if_neg hx]
  cases b : rightT t.ss t.cl
  · rw [b] at hok
    rw [no 20 (by decide) (by unfold joinE; rw [if_pos hok])]
    exact (joinT_wrong1 t.sa t.sl t.sc t.ss t.ca t.cl t.cc u.sa u.sl u.sc u.ss u.ca u.cl u.cc side w h.1.1 (by omega) h2.1.1 (by omega) b).mono fun _ _ h' => tres_nil h'
  rw [b] at hok
  have n1 : ¬ okP (pr t) = false := by rw [hok]; decide
  have hr := (rightT_parts b).1
  cases b2 : rightT u.ss u.cl
  · rw [b2] at hok2
    rw [no 20 (by decide) (by unfold joinE; rw [if_neg n1, if_pos hok2])]
    exact (joinT_wrong2 t.sa t.sl t.sc t.ss t.ca t.cl t.cc u.sa u.sl u.sc u.ss u.ca u.cl u.cc side w h.1.1 (by omega) h2.1.1 (by omega) b b2).mono fun _ _ h' => tres_nil h'
  rw [b2] at hok2
  have n2 : ¬ okP (pr u) = false := by rw [hok2]; decide
  have hr2 := (rightT_parts b2).1
  have NO := fun (s : Int) (x : Int) (hx : x ≠ 0) HJ => joinT_none t.sa t.sl t.sc t.ss t.ca t.cl t.cc u.sa u.sl u.sc u.ss u.ca u.cl u.cc s x w h.1.1 (by omega) h2.1.1 (by omega) b b2 hx HJ
  by_cases hn : t.sl = u.sl
  case neg =>
    rw [no 20 (by decide) (by unfold joinE; rw [if_neg n1, if_neg n2, if_pos (by show t.ss.length ≠ u.ss.length; omega)])]
    exact (NO side 20 (by decide) (fun w1 hb => join_wrong t.sa t.sl t.sc t.ss u.sa u.sl u.sc u.ss side w1 (h.1.1.kept hb) (h2.1.1.kept hb) (fun q => hn q.2.2))).mono fun _ _ h' => tres_nil h'
  have n3 : ¬ (pr t).1.length ≠ (pr u).1.length := by show ¬ t.ss.length ≠ u.ss.length; omega
  have hi2 : IntsAt w u.sa t.sl u.ss := by rw [hn]; exact h2.1.1
  rw [← hn] at NO
  cases d : hasD t.sl side
  · rw [no 11 (by decide) (by unfold joinE; rw [if_neg n1, if_neg n2, if_neg n3, if_pos (by show hasD t.ss.length side = false; rw [hsl]; exact d)])]
    rw [← hn]
    exact (NO side 11 (by decide) (fun w1 hb => join_none t.sa t.sl t.sc t.ss u.sa u.sc u.ss side w1 (h.1.1.kept hb) (hi2.kept hb) hr hr2 d)).mono fun _ _ h' => tres_nil h'
  have n4 : ¬ hasD (pr t).1.length side = false := by show ¬ hasD t.ss.length side = false; rw [hsl, d]; decide
  obtain ⟨k, hk, rfl⟩ := hasD_nat d
  cases s : sameL (t.ss.set k (u.ss.getD k 0)) u.ss
  · rw [no 20 (by decide) (by unfold joinE; rw [if_neg n1, if_neg n2, if_neg n3, if_neg n4, Int.toNat_natCast, if_pos (by exact s)])]
    rw [← hn]
    exact (NO k 20 (by decide) (fun w1 hb => join_other t.sa t.sl t.sc t.ss u.sa u.sc u.ss k w1 (h.1.1.kept hb) (hi2.kept hb) hr hr2 hk s)).mono fun _ _ h' => tres_nil h'
  have n5 : ¬ sameL ((pr t).1.set k ((pr u).1.getD k 0)) (pr u).1 = false := by show ¬ sameL (t.ss.set k (u.ss.getD k 0)) u.ss = false; rw [s]; decide
  cases g : rightS (t.ss.set k (t.ss.getD k 0 + u.ss.getD k 0))
  · rw [no 20 (by decide) (by unfold joinE; rw [if_neg n1, if_neg n2, if_neg n3, if_neg n4, Int.toNat_natCast, if_neg n5, if_pos (by exact g)])]
    rw [← hn]
    exact (NO k 20 (by decide) (fun w1 hb => join_big t.sa t.sl t.sc t.ss u.sa u.sc u.ss k w1 (h.1.1.kept hb) (hi2.kept hb) hr hr2 hk s g)).mono fun _ _ h' => tres_nil h'
  obtain ⟨x, P, M, hN⟩ := num_of hr (show k < t.ss.length by omega)
  obtain ⟨y, P', M', hN2⟩ := num_of hr2 (show k < u.ss.length by omega)
  have hss := sameL_eq s
  have q1 := hN2.PE
  rw [← hss, set_drop, hN.PE] at q1
  have q2 := hN2.ME
  rw [← hss, set_take, hN.ME] at q2
  obtain rfl : P = P' := by omega
  obtain rfl : M = M' := by omega
  have es : t.ss.getD k 0 + u.ss.getD k 0 = ((x + y : Nat) : Int) := by rw [hN.xE, hN2.xE]; simp
  have he : u.ss = t.ss.set k (y : Int) := by rw [← hN2.xE]; exact hss.symm
  rw [es] at g
  have e := joinR_at (p := pr t) (q := pr u) hN hok hok2 he g
  have k1 := okP_len (p := pr t) hN hok
  have k2 := okP_len (p := pr u) hN2 hok2
  have e1 : t.cl = M * (x * P) := by rw [← h.len]; exact k1
  have e2 : u.cl = M * (y * P) := by rw [← h2.len]; exact k2
  rw [e]
  have HJ := fun w1 (hb : Below w.heap.size w w1) => join_ok t.sa t.sl t.sc t.ss u.sa u.sc u.ss k w1 (h.1.1.kept hb) (hi2.kept hb) hr hr2 hk s (by rw [es]; exact g)
  simp only [es] at HJ
  have C := joinT_ok t.sa t.sl t.sc t.ss t.ca t.cl t.cc t.cs u.sa u.sl u.sc u.ss u.ca u.cl u.cc u.cs k (x * P) (y * P) M (t.ss.set k ((x + y : Nat) : Int)) w h.1.1 h.2.2 h.1.2.1 h.2.1 h2.1.1 h2.2.2 h2.1.2.1 h2.2.1 hl hl2 b b2 hk (by omega) (by rw [hN.xE, hN.PE]; simp) hN.ME (by rw [hN2.xE, hN2.PE]; simp) hN2.ME e1 e2 hN.M1 (by rw [← hn]; exact HJ)
  refine C.mono fun _ _ h' => tres_ok h' (fits_right g) (joinP_fits h.1.2.1.2.2.1 h2.1.2.1.2.2.1 _ _ _) (by have := h.1.2.2.1; omega) ?_
  rw [Nat.mul_add, ← e1, ← e2]
  omega

/-- What Of says. -/
def ofR (s c : List Int) : Int × Pr := if rightT s c.length = true then (0, (s, c)) else (20, nilP)
theorem tof_any (sa : Option Addr) (sl sc : Nat) (ss : List Int) (ca : Option Addr) (cl cc : Nat) (cs : List Int) (w : World) (h : IntsAt w sa sl ss) (hc : IntsAt w ca cl cs) (hl : cl ≤ 1000) :
    Calls Try.prog 24 #[.slice sa sl sc, .slice ca cl cc] w (TRes w (ofR ss cs)) := by
  unfold ofR
  rw [hc.1]
  cases b : rightT ss cl
  · rw [if_neg (by decide)]
    exact (of_no sa sl sc ss ca cl cc w h (by omega) b).mono fun _ _ h' => tres_nil h'
  · rw [if_pos rfl]
    have hs := (rightS_parts (rightT_parts b).1).2.1
    have hl1 := h.1
    exact (of_ok sa sl sc ss ca cl cc cs w h (by omega) hc hl b).mono fun _ _ h' => tres_ok h' h.2.2.1 hc.2.2.1 (by omega) (by omega)
theorem tmake_any (sa : Option Addr) (sl sc : Nat) (ss : List Int) (w : World) (h : IntsAt w sa sl ss) (hr : rightS ss = true) :
    Calls Try.prog 35 #[.slice sa sl sc, .int .i64 0] w (TRes w (0, (ss, List.replicate (prodI ss).toNat 0))) := by
  obtain ⟨p1, p2, p3, p4⟩ := rightS_parts hr
  have hp := prodI_pos p3
  have hl1 := h.1
  obtain ⟨N, hN⟩ : ∃ N : Nat, prodI ss = N := ⟨(prodI ss).toNat, by omega⟩
  rw [hN, Int.toNat_natCast]
  refine (make_ok sa sl sc ss 0 w h hr N hN).mono fun _ _ h' => tres_ok h' h.2.2.1 ?_ (by omega) (by omega)
  intro z hz
  obtain ⟨-, rfl⟩ := List.mem_replicate.1 hz
  omega

set_option maxHeartbeats 1000000 in
theorem mcut_any (x : TV) (side fr tt : Int) (w : World) (h : Good x w) (hl : x.cl ≤ 2000) :
    Calls Try.prog 16 #[.agg #[.slice x.sa x.sl x.sc, .slice x.ca x.cl x.cc], .int .i64 side, .int .i64 fr, .int .i64 tt] w (TRes w (cutR (pr x) side fr tt)) := by
  obtain ⟨wA, hwA, J1, z1, n1⟩ := grid_box w (.slice x.sa x.sl x.sc) (.slice x.ca x.cl x.cc)
  obtain ⟨wB, hwB, J2, z2, n2⟩ := grid_box wA (.slice none 0 0) (.slice none 0 0)
  rw [n1.out] at J2
  have z := Lib.hid (z1.out.trans (z2.out.mono z1.out.size))
  have J := Lib.hid (J1.out.kept z2.out)
  have hsz := Lib.hid (show w.heap.size + 1 < wB.heap.size by have := n1.out; have := n2.out; omega)
  have C := tcut_any x side fr tt wB (h.kept z.out) hl
  obtain ⟨r, hr⟩ : ∃ r, cutR (pr x) side fr tt = r := ⟨_, rfl⟩
  rw [hr] at C ⊢
  have C1 := Lib.hid C
  clear h J1 C hr
  obtain ⟨j0, j1, -, -⟩ := J.out.see
  go_enter Try.func16, Try.ntmps16
  go_upto_region 1 with (fail)
  rw [hwA.out, hwB.out]
  go_wp2_with fail
  refine C1.out.mono ?_
  rintro e w2 ⟨t, rfl, hp, hG, hL, hb2⟩
  obtain ⟨e0, e1, f0, f1⟩ := (J2.out.kept hb2).see
  obtain ⟨w9, hw9, q1, q2, q3, h0, h1⟩ := tres_put (z.out) (show w.heap.size ≤ w.heap.size + 1 by omega) (hsz.out) (J2.out.kept hb2) hG hL hb2
  clear hG hL hb2
  go_wp2_with fail
  rw [hw9.out]
  refine bodyPost_ret (v := .tuple #[.agg #[.slice t.sa t.sl t.sc, .slice t.ca t.cl t.cc], .int .i64 r.1]) ?_ rfl ⟨t, rfl, hp, q1.out, q2.out, q3.out⟩
  simp [results, Try.results16, go_sem, h0, h1]

set_option maxHeartbeats 1000000 in
theorem alone_wrong (side : Int) (x : TV) (w : World) (h : Good x w) (hl : x.cl ≤ 1000) (b : rightT x.ss x.cl = false) :
    Calls Try.prog 25 #[.int .i64 side, .agg #[.slice x.sa x.sl x.sc, .slice x.ca x.cl x.cc]] w (TRes w (20, nilP)) := by
  obtain ⟨wA, hwA, J1, z1, n1⟩ := grid_box w (.slice x.sa x.sl x.sc) (.slice x.ca x.cl x.cc)
  obtain ⟨wB, hwB, J2, z2, n2⟩ := grid_box wA (.slice none 0 0) (.slice none 0 0)
  rw [n1.out] at J2
  have z := Lib.hid (z1.out.trans (z2.out.mono z1.out.size))
  have J := Lib.hid (J1.out.kept z2.out)
  have hsz := Lib.hid (show w.heap.size + 1 < wB.heap.size by have := n1.out; have := n2.out; omega)
  have C := tright_any x.sa x.sl x.sc x.ss x.ca x.cl x.cc wB (h.kept z.out).1.1 (by omega)
  rw [b] at C
  have C1 := Lib.hid C
  clear h J1 C b
  obtain ⟨j0, j1, -, -⟩ := J.out.see
  go_enter Try.func25, Try.ntmps25
  go_upto_region 1 with (fail)
  rw [hwA.out, hwB.out]
  go_wp2_with fail
  refine C1.out.mono ?_
  rintro e w1 ⟨rfl, hb1⟩
  obtain ⟨e0, e1, f0, f1⟩ := (J2.out.kept hb1).see
  obtain ⟨w9, hw9, R9, h0, h1⟩ := nil_put (z.out.trans (hb1.mono z.out.size)) (show w.heap.size ≤ w.heap.size + 1 by omega) (J2.out.kept hb1) 20
  go_wp2_with fail
  rw [hw9.out]
  refine bodyPost_ret (v := .tuple #[.agg #[.slice none 0 0, .slice none 0 0], .int .i64 20]) ?_ rfl R9.out
  simp [results, Try.results25, go_sem, h0, h1]

set_option maxHeartbeats 1000000 in
theorem alone_low (side : Int) (x : TV) (w : World) (h : Good x w) (hl : x.cl ≤ 1000) (b : rightT x.ss x.cl = true) (hs : side < 0) :
    Calls Try.prog 25 #[.int .i64 side, .agg #[.slice x.sa x.sl x.sc, .slice x.ca x.cl x.cc]] w (TRes w (11, nilP)) := by
  obtain ⟨wA, hwA, J1, z1, n1⟩ := grid_box w (.slice x.sa x.sl x.sc) (.slice x.ca x.cl x.cc)
  obtain ⟨wB, hwB, J2, z2, n2⟩ := grid_box wA (.slice none 0 0) (.slice none 0 0)
  rw [n1.out] at J2
  have z := Lib.hid (z1.out.trans (z2.out.mono z1.out.size))
  have J := Lib.hid (J1.out.kept z2.out)
  have hsz := Lib.hid (show w.heap.size + 1 < wB.heap.size by have := n1.out; have := n2.out; omega)
  have C := tright_any x.sa x.sl x.sc x.ss x.ca x.cl x.cc wB (h.kept z.out).1.1 (by omega)
  rw [b] at C
  have C1 := Lib.hid C
  clear h J1 C b
  obtain ⟨j0, j1, -, -⟩ := J.out.see
  go_enter Try.func25, Try.ntmps25
  go_upto_region 1 with (fail)
  rw [hwA.out, hwB.out]
  go_wp2_with fail
  refine C1.out.mono ?_
  rintro e w1 ⟨rfl, hb1⟩
  obtain ⟨k0, k1, -, -⟩ := (J.out.kept hb1).see
  obtain ⟨e0, e1, f0, f1⟩ := (J2.out.kept hb1).see
  obtain ⟨w9, hw9, R9, h0, h1⟩ := nil_put (z.out.trans (hb1.mono z.out.size)) (show w.heap.size ≤ w.heap.size + 1 by omega) (J2.out.kept hb1) 11
  go_wp2_with fail
  rw [hw9.out]
  refine bodyPost_ret (v := .tuple #[.agg #[.slice none 0 0, .slice none 0 0], .int .i64 11]) ?_ rfl R9.out
  simp [results, Try.results25, go_sem, h0, h1]

set_option maxHeartbeats 1000000 in
theorem alone_high (side : Int) (x : TV) (w : World) (h : Good x w) (hl : x.cl ≤ 1000) (b : rightT x.ss x.cl = true) (hs : ¬ side < 0) (hs2 : (x.sl : Int) ≤ side) :
    Calls Try.prog 25 #[.int .i64 side, .agg #[.slice x.sa x.sl x.sc, .slice x.ca x.cl x.cc]] w (TRes w (11, nilP)) := by
  obtain ⟨wA, hwA, J1, z1, n1⟩ := grid_box w (.slice x.sa x.sl x.sc) (.slice x.ca x.cl x.cc)
  obtain ⟨wB, hwB, J2, z2, n2⟩ := grid_box wA (.slice none 0 0) (.slice none 0 0)
  rw [n1.out] at J2
  have z := Lib.hid (z1.out.trans (z2.out.mono z1.out.size))
  have J := Lib.hid (J1.out.kept z2.out)
  have hsz := Lib.hid (show w.heap.size + 1 < wB.heap.size by have := n1.out; have := n2.out; omega)
  have C := tright_any x.sa x.sl x.sc x.ss x.ca x.cl x.cc wB (h.kept z.out).1.1 (by omega)
  rw [b] at C
  have C1 := Lib.hid C
  clear h J1 C b
  obtain ⟨j0, j1, -, -⟩ := J.out.see
  go_enter Try.func25, Try.ntmps25
  go_upto_region 1 with (fail)
  rw [hwA.out, hwB.out]
  go_wp2_with fail
  refine C1.out.mono ?_
  rintro e w1 ⟨rfl, hb1⟩
  obtain ⟨k0, k1, -, -⟩ := (J.out.kept hb1).see
  obtain ⟨e0, e1, f0, f1⟩ := (J2.out.kept hb1).see
  obtain ⟨w9, hw9, R9, h0, h1⟩ := nil_put (z.out.trans (hb1.mono z.out.size)) (show w.heap.size ≤ w.heap.size + 1 by omega) (J2.out.kept hb1) 11
  go_wp2_with fail
  rw [hw9.out]
  refine bodyPost_ret (v := .tuple #[.agg #[.slice none 0 0, .slice none 0 0], .int .i64 11]) ?_ rfl R9.out
  simp [results, Try.results25, go_sem, h0, h1]

set_option maxHeartbeats 1000000 in
theorem alone_yes (side : Int) (x : TV) (w : World) (h : Good x w) (hl : x.cl ≤ 1000) (b : rightT x.ss x.cl = true) (hs : ¬ side < 0) (hs2 : ¬ (x.sl : Int) ≤ side) :
    Calls Try.prog 25 #[.int .i64 side, .agg #[.slice x.sa x.sl x.sc, .slice x.ca x.cl x.cc]] w (TRes w (0, pr x)) := by
  obtain ⟨wA, hwA, J1, z1, n1⟩ := grid_box w (.slice x.sa x.sl x.sc) (.slice x.ca x.cl x.cc)
  obtain ⟨wB, hwB, J2, z2, n2⟩ := grid_box wA (.slice none 0 0) (.slice none 0 0)
  rw [n1.out] at J2
  have z := Lib.hid (z1.out.trans (z2.out.mono z1.out.size))
  have J := Lib.hid (J1.out.kept z2.out)
  have hsz := Lib.hid (show w.heap.size + 1 < wB.heap.size by have := n1.out; have := n2.out; omega)
  have C := tright_any x.sa x.sl x.sc x.ss x.ca x.cl x.cc wB (h.kept z.out).1.1 (by omega)
  rw [b] at C
  have C1 := Lib.hid C
  have hsl : x.sl ≤ 1000 := by have := (rightS_parts (rightT_parts b).1).2.1; have := h.slen; omega
  have D := Lib.hid (fun w1 (hb : Below wB.heap.size wB w1) => tcopy_any x.sa x.sl x.sc x.ss x.ca x.cl x.cc x.cs w1 ((h.kept z.out).kept hb).1.1 hsl ((h.kept z.out).kept hb).1.2.1 hl)
  have HF := Lib.hid (And.intro h.1.1.2.2.1 (And.intro h.1.2.1.2.2.1 h.1.2.2))
  clear h J1 C b
  obtain ⟨j0, j1, -, -⟩ := J.out.see
  go_enter Try.func25, Try.ntmps25
  go_upto_region 1 with (fail)
  rw [hwA.out, hwB.out]
  go_wp2_with fail
  refine C1.out.mono ?_
  rintro e w1 ⟨rfl, hb1⟩
  obtain ⟨k0, k1, -, -⟩ := (J.out.kept hb1).see
  go_wp2_with fail
  refine (D.out w1 hb1).mono ?_
  rintro e w2 ⟨v', rfl, hn⟩
  obtain ⟨t, rfl, hp, hG, hL, hb2⟩ := new_tv hn HF.out.1 HF.out.2.1 HF.out.2.2.1 HF.out.2.2.2
  clear hn k0 k1
  obtain ⟨e0, e1, f0, f1⟩ := (J2.out.kept (hb1.trans (hb2.mono hb1.size))).see
  obtain ⟨w9, hw9, q1, q2, q3, h0, h1⟩ := tres_put (z.out.trans (hb1.mono z.out.size)) (show w.heap.size ≤ w.heap.size + 1 by omega) (Nat.lt_of_lt_of_le hsz.out hb1.size) (J2.out.kept (hb1.trans (hb2.mono hb1.size))) hG hL hb2
  clear hG hL hb2
  go_wp2_with fail
  rw [hw9.out]
  refine bodyPost_ret (v := .tuple #[.agg #[.slice t.sa t.sl t.sc, .slice t.ca t.cl t.cc], .int .i64 0]) ?_ rfl ⟨t, rfl, hp, q1.out, q2.out, q3.out⟩
  simp [results, Try.results25, go_sem, h0, h1]

theorem alone_any (side : Int) (x : TV) (w : World) (h : Good x w) (hl : x.cl ≤ 1000) :
    Calls Try.prog 25 #[.int .i64 side, .agg #[.slice x.sa x.sl x.sc, .slice x.ca x.cl x.cc]] w (TRes w (aloneR (pr x) side)) := by
  have hok := h.ok
  have hsl := h.slen
  unfold aloneR
  cases b : rightT x.ss x.cl
  · rw [b] at hok
    rw [if_pos hok]
    exact alone_wrong side x w h hl b
  rw [b] at hok
  rw [if_neg (by rw [hok]; decide)]
  by_cases c1 : side < 0
  · rw [if_pos (by show hasD x.ss.length side = false; exact (hasD_low (by omega)).symm)]
    exact alone_low side x w h hl b c1
  by_cases c2 : (x.sl : Int) ≤ side
  · rw [if_pos (by show hasD x.ss.length side = false; exact (hasD_high (by omega)).symm)]
    exact alone_high side x w h hl b c1 c2
  · rw [if_neg (by show ¬ hasD x.ss.length side = false; rw [← hasD_yes (len := x.ss.length) (side := side) (by omega) (by omega)]; decide)]
    exact alone_yes side x w h hl b c1 c2

set_option maxHeartbeats 1000000 in
theorem isgrad_any (g x : TV) (w : World) (h : Good g w) (hx : Good x w) :
    Calls Try.prog 32 #[.agg #[.slice g.sa g.sl g.sc, .slice g.ca g.cl g.cc], .agg #[.slice x.sa x.sl x.sc, .slice x.ca x.cl x.cc]] w fun e w' => e = .returned (.bool (okP (pr g) && sameL g.ss x.ss)) ∧ Below w.heap.size w w' := by
  have hok := h.ok
  rw [hok]
  obtain ⟨wA, hwA, J1, z1, n1⟩ := grid_box w (.slice g.sa g.sl g.sc) (.slice g.ca g.cl g.cc)
  obtain ⟨wB, hwB, J2, z2, n2⟩ := grid_box wA (.slice x.sa x.sl x.sc) (.slice x.ca x.cl x.cc)
  rw [n1.out] at J2
  have z := Lib.hid (z1.out.trans (z2.out.mono z1.out.size))
  have J := Lib.hid (J1.out.kept z2.out)
  have C := tright_any g.sa g.sl g.sc g.ss g.ca g.cl g.cc wB (h.kept z.out).1.1 (by have := h.1.2.2.2; omega)
  have D := Lib.hid (fun w1 (hb : Below wB.heap.size wB w1) => equal_any g.sa g.sl g.sc g.ss x.sa x.sl x.sc x.ss w1 ((h.kept z.out).kept hb).1.1 ((hx.kept z.out).kept hb).1.1)
  clear h hx J1 hok
  cases b : rightT g.ss g.cl
  · rw [b] at C
    have C1 := Lib.hid C
    rw [Bool.false_and]
    clear C b D
    obtain ⟨j0, j1, -, -⟩ := J.out.see
    go_enter Try.func32, Try.ntmps32
    go_upto_region 1 with (fail)
    rw [hwA.out, hwB.out]
    go_wp2_with fail
    refine C1.out.mono ?_
    rintro e w1 ⟨rfl, hb1⟩
    go_wp2_with fail
    go_ret
    exact ⟨rfl, z.out.trans (hb1.mono z.out.size)⟩
  · rw [b] at C
    have C1 := Lib.hid C
    rw [Bool.true_and]
    obtain ⟨y, hy⟩ : ∃ y, sameL g.ss x.ss = y := ⟨_, rfl⟩
    rw [hy] at D ⊢
    clear C b hy
    obtain ⟨j0, j1, -, -⟩ := J.out.see
    go_enter Try.func32, Try.ntmps32
    go_upto_region 1 with (fail)
    rw [hwA.out, hwB.out]
    go_wp2_with fail
    refine C1.out.mono ?_
    rintro e w1 ⟨rfl, hb1⟩
    obtain ⟨k0, k1, -, -⟩ := (J.out.kept hb1).see
    obtain ⟨l0, l1, -, -⟩ := (J2.out.kept hb1).see
    go_wp2_with fail
    refine (D.out w1 hb1).mono ?_
    rintro e w2 ⟨rfl, n, rfl⟩
    go_wp2_with fail
    go_ret
    exact ⟨rfl, z.out.trans ((below_drewN' hb1 n).mono z.out.size)⟩

/-- What Turn says. -/
def turnR (p : Pr) (s : List Int) : Int × Pr := if okP p = false then (20, nilP) else ofR s p.2
set_option maxHeartbeats 1000000 in
theorem turn_any (x : TV) (sa : Option Addr) (sl sc : Nat) (ss : List Int) (w : World) (h : Good x w) (hs : IntsAt w sa sl ss) (hl : x.cl ≤ 1000) :
    Calls Try.prog 20 #[.agg #[.slice x.sa x.sl x.sc, .slice x.ca x.cl x.cc], .slice sa sl sc] w (TRes w (turnR (pr x) ss)) := by
  have hok := h.ok
  unfold turnR
  rw [hok]
  obtain ⟨wA, hwA, J1, z1, n1⟩ := grid_box w (.slice x.sa x.sl x.sc) (.slice x.ca x.cl x.cc)
  obtain ⟨wB, hwB, J2, z2, n2⟩ := grid_box wA (.slice none 0 0) (.slice none 0 0)
  rw [n1.out] at J2
  have z := Lib.hid (z1.out.trans (z2.out.mono z1.out.size))
  have J := Lib.hid (J1.out.kept z2.out)
  have hsz := Lib.hid (show w.heap.size + 1 < wB.heap.size by have := n1.out; have := n2.out; omega)
  have C := tright_any x.sa x.sl x.sc x.ss x.ca x.cl x.cc wB (h.kept z.out).1.1 (by omega)
  have D := Lib.hid (fun w1 (hb : Below wB.heap.size wB w1) => tof_any sa sl sc ss x.ca x.cl x.cc x.cs w1 ((hs.kept z.out).kept hb) ((h.kept z.out).kept hb).1.2.1 hl)
  clear h J1 hok hs
  cases b : rightT x.ss x.cl
  · rw [b] at C
    have C1 := Lib.hid C
    rw [if_pos rfl]
    clear C b D
    obtain ⟨j0, j1, -, -⟩ := J.out.see
    go_enter Try.func20, Try.ntmps20
    go_upto_region 1 with (fail)
    rw [hwA.out, hwB.out]
    go_wp2_with fail
    refine C1.out.mono ?_
    rintro e w1 ⟨rfl, hb1⟩
    obtain ⟨e0, e1, f0, f1⟩ := (J2.out.kept hb1).see
    obtain ⟨w9, hw9, R9, h0, h1⟩ := nil_put (z.out.trans (hb1.mono z.out.size)) (show w.heap.size ≤ w.heap.size + 1 by omega) (J2.out.kept hb1) 20
    go_wp2_with fail
    rw [hw9.out]
    refine bodyPost_ret (v := .tuple #[.agg #[.slice none 0 0, .slice none 0 0], .int .i64 20]) ?_ rfl R9.out
    simp [results, Try.results20, go_sem, h0, h1]
  · rw [b] at C
    have C1 := Lib.hid C
    rw [if_neg (by decide)]
    show Calls _ _ _ _ (TRes w (ofR ss x.cs))
    obtain ⟨r, hr⟩ : ∃ r, ofR ss x.cs = r := ⟨_, rfl⟩
    rw [hr] at D ⊢
    clear C b hr
    obtain ⟨j0, j1, -, -⟩ := J.out.see
    go_enter Try.func20, Try.ntmps20
    go_upto_region 1 with (fail)
    rw [hwA.out, hwB.out]
    go_wp2_with fail
    refine C1.out.mono ?_
    rintro e w1 ⟨rfl, hb1⟩
    obtain ⟨k0, k1, -, -⟩ := (J.out.kept hb1).see
    go_wp2_with fail
    refine (D.out w1 hb1).mono ?_
    rintro e w2 ⟨t, rfl, hp, hG, hL, hb2⟩
    clear k0 k1
    obtain ⟨e0, e1, f0, f1⟩ := (J2.out.kept (hb1.trans (hb2.mono hb1.size))).see
    obtain ⟨w9, hw9, q1, q2, q3, h0, h1⟩ := tres_put (z.out.trans (hb1.mono z.out.size)) (show w.heap.size ≤ w.heap.size + 1 by omega) (Nat.lt_of_lt_of_le hsz.out hb1.size) (J2.out.kept (hb1.trans (hb2.mono hb1.size))) hG hL hb2
    clear hG hL hb2
    go_wp2_with fail
    rw [hw9.out]
    refine bodyPost_ret (v := .tuple #[.agg #[.slice t.sa t.sl t.sc, .slice t.ca t.cl t.cc], .int .i64 r.1]) ?_ rfl ⟨t, rfl, hp, q1.out, q2.out, q3.out⟩
    simp [results, Try.results20, go_sem, h0, h1]

/-- What TurnBack says. -/
def tbackR (x g : Pr) : Int × Pr := if okP x = false then (20, nilP) else turnR g x.1
set_option maxHeartbeats 1000000 in
theorem tback_any (x g : TV) (w : World) (h : Good x w) (hg : Good g w) (hl : g.cl ≤ 1000) :
    Calls Try.prog 23 #[.agg #[.slice x.sa x.sl x.sc, .slice x.ca x.cl x.cc], .agg #[.slice g.sa g.sl g.sc, .slice g.ca g.cl g.cc]] w (TRes w (tbackR (pr x) (pr g))) := by
  have hok := h.ok
  unfold tbackR
  rw [hok]
  obtain ⟨wA, hwA, J1, z1, n1⟩ := grid_box w (.slice x.sa x.sl x.sc) (.slice x.ca x.cl x.cc)
  obtain ⟨wC, hwC, J3, z3, n3⟩ := grid_box wA (.slice g.sa g.sl g.sc) (.slice g.ca g.cl g.cc)
  obtain ⟨wB, hwB, J2, z2, n2⟩ := grid_box wC (.slice none 0 0) (.slice none 0 0)
  rw [n1.out] at J3
  rw [n3.out, n1.out] at J2
  have z13 := z1.out.trans (z3.out.mono z1.out.size)
  have z := Lib.hid (z13.trans (z2.out.mono z13.size))
  have J := Lib.hid ((J1.out.kept z3.out).kept z2.out)
  have JG := Lib.hid (J3.out.kept z2.out)
  have hsz := Lib.hid (show w.heap.size + 1 + 1 < wB.heap.size by have := n1.out; have := n2.out; have := n3.out; omega)
  clear z13
  have C := tright_any x.sa x.sl x.sc x.ss x.ca x.cl x.cc wB (h.kept z.out).1.1 (by have := h.1.2.2.2; omega)
  have D := Lib.hid (fun w1 (hb : Below wB.heap.size wB w1) => turn_any g x.sa x.sl x.sc x.ss w1 ((hg.kept z.out).kept hb) ((h.kept z.out).kept hb).1.1 hl)
  clear h J1 hok hg
  cases b : rightT x.ss x.cl
  · rw [b] at C
    have C1 := Lib.hid C
    rw [if_pos rfl]
    clear C b D
    obtain ⟨j0, j1, -, -⟩ := J.out.see
    go_enter Try.func23, Try.ntmps23
    go_upto_region 1 with (fail)
    rw [hwA.out, hwC.out, hwB.out]
    go_wp2_with fail
    refine C1.out.mono ?_
    rintro e w1 ⟨rfl, hb1⟩
    obtain ⟨e0, e1, f0, f1⟩ := (J2.out.kept hb1).see
    obtain ⟨w9, hw9, R9, h0, h1⟩ := nil_put (z.out.trans (hb1.mono z.out.size)) (show w.heap.size ≤ w.heap.size + 1 + 1 by omega) (J2.out.kept hb1) 20
    go_wp2_with fail
    rw [hw9.out]
    refine bodyPost_ret (v := .tuple #[.agg #[.slice none 0 0, .slice none 0 0], .int .i64 20]) ?_ rfl R9.out
    simp [results, Try.results23, go_sem, h0, h1]
  · rw [b] at C
    have C1 := Lib.hid C
    rw [if_neg (by decide)]
    show Calls _ _ _ _ (TRes w (turnR (pr g) x.ss))
    obtain ⟨r, hr⟩ : ∃ r, turnR (pr g) x.ss = r := ⟨_, rfl⟩
    rw [hr] at D ⊢
    clear C b hr
    obtain ⟨j0, j1, -, -⟩ := J.out.see
    go_enter Try.func23, Try.ntmps23
    go_upto_region 1 with (fail)
    rw [hwA.out, hwC.out, hwB.out]
    go_wp2_with fail
    refine C1.out.mono ?_
    rintro e w1 ⟨rfl, hb1⟩
    obtain ⟨k0, k1, -, -⟩ := (J.out.kept hb1).see
    obtain ⟨l0, l1, -, -⟩ := (JG.out.kept hb1).see
    go_wp2_with fail
    refine (D.out w1 hb1).mono ?_
    rintro e w2 ⟨t, rfl, hp, hG, hL, hb2⟩
    clear k0 k1 l0 l1
    obtain ⟨e0, e1, f0, f1⟩ := (J2.out.kept (hb1.trans (hb2.mono hb1.size))).see
    obtain ⟨w9, hw9, q1, q2, q3, h0, h1⟩ := tres_put (z.out.trans (hb1.mono z.out.size)) (show w.heap.size ≤ w.heap.size + 1 + 1 by omega) (Nat.lt_of_lt_of_le hsz.out hb1.size) (J2.out.kept (hb1.trans (hb2.mono hb1.size))) hG hL hb2
    clear hG hL hb2
    go_wp2_with fail
    rw [hw9.out]
    refine bodyPost_ret (v := .tuple #[.agg #[.slice t.sa t.sl t.sc, .slice t.ca t.cl t.cc], .int .i64 r.1]) ?_ rfl ⟨t, rfl, hp, q1.out, q2.out, q3.out⟩
    simp [results, Try.results23, go_sem, h0, h1]
end Go.Proofs.Ytieegaojcjhfdaa

/-
  The contract of package move's Join.
-/
namespace Go.Proofs.Ytieegaojcjhfdaa
open Go.RowKit
set_option linter.unusedVariables false
set_option linter.unusedSimpArgs false

/-- A slice of tensors that can be read. -/
structure Gsl (w : World) (a : Option Addr) (len cap : Nat) (ts : List TV) : Prop where
  at_ : GsAt w a len ts
  caps : ∀ t ∈ ts, t.Cap ∧ t.CapS
  room : len ≤ cap
  fits : cap ≤ 9223372036854775807
theorem Gsl.kept {w w' : World} {a : Option Addr} {len cap : Nat} {ts : List TV} (h : Gsl w a len cap ts) (hb : Below w.heap.size w w') : Gsl w' a len cap ts := ⟨h.at_.kept hb, h.caps, h.room, h.fits⟩
theorem Gsl.good {w : World} {a : Option Addr} {len cap : Nat} {ts : List TV} (h : Gsl w a len cap ts) {t : TV} (ht : t ∈ ts) : Good t w := ⟨h.at_.2.2.1 t ht, h.caps t ht⟩
theorem Gsl.len {w : World} {a : Option Addr} {len cap : Nat} {ts : List TV} (h : Gsl w a len cap ts) : ts.length = len := h.at_.1
/-- The place of the j-th tensor, where the slice begins at b, off. -/
theorem Gsl.cell {w : World} {b off len cap : Nat} {ts : List TV} (h : Gsl w (some ⟨b, off, none⟩) len cap ts) {j : Nat} {t : TV} (ht : ts[j]? = some t) :
    w.cell? ⟨b, off + j * 2, none⟩ = some (.slice t.sa t.sl t.sc) ∧ w.cell? ⟨b, off + j * 2 + 1, none⟩ = some (.slice t.ca t.cl t.cc) ∧ Good t w := by
  have hj := (List.getElem?_eq_some_iff.1 ht).1
  rcases h.at_.2.2.2 with h4 | ⟨b', off', ha, hc⟩
  · have := h.len; omega
  · cases ha
    exact ⟨(hc j t ht).1, (hc j t ht).2, h.good (List.mem_of_getElem? ht)⟩
theorem Gsl.addr {w : World} {a : Option Addr} {len cap : Nat} {ts : List TV} (h : Gsl w a len cap ts) (hl : 0 < len) : ∃ b off, a = some ⟨b, off, none⟩ := by
  rcases h.at_.2.2.2 with h4 | ⟨b, off, ha, -⟩
  · omega
  · exact ⟨b, off, ha⟩
theorem tres_zero {w w' : World} {r : Int × Pr} {t : TV} (hr : r.1 = 0) (hp : pr t = r.2) : (0, pr t) = r := by rw [hp, ← hr]

set_option maxHeartbeats 1000000 in
theorem mjoin_none (side : Int) (a : Option Addr) (cap : Nat) (w : World) :
    Calls Try.prog 10 #[.int .i64 side, .slice a 0 cap] w (TRes w (20, nilP)) := by
  obtain ⟨wA, hwA, J, z, n1⟩ := grid_box w (.slice none 0 0) (.slice none 0 0)
  go_enter Try.func10, Try.ntmps10
  go_upto_region 1 with (fail)
  rw [hwA.out]
  obtain ⟨e0, e1, f0, f1⟩ := J.out.see
  obtain ⟨w9, hw9, R9, h0, h1⟩ := nil_put z.out (Nat.le_refl _) J.out 20
  go_wp2_with fail
  rw [hw9.out]
  refine bodyPost_ret (v := .tuple #[.agg #[.slice none 0 0, .slice none 0 0], .int .i64 20]) ?_ rfl R9.out
  simp [results, Try.results10, go_sem, h0, h1]

set_option maxHeartbeats 1000000 in
theorem mjoin_one (side : Int) (b off cap : Nat) (t0 : TV) (w : World) (h : Gsl w (some ⟨b, off, none⟩) 1 cap [t0]) (hl : t0.cl ≤ 1000) :
    Calls Try.prog 10 #[.int .i64 side, .slice (some ⟨b, off, none⟩) 1 cap] w (TRes w (aloneR (pr t0) side)) := by
  obtain ⟨wA, hwA, J, z, n1⟩ := grid_box w (.slice none 0 0) (.slice none 0 0)
  have hA := h.kept z.out
  obtain ⟨c0, c1, hg⟩ := hA.cell (j := 0) rfl
  simp only [Nat.zero_mul, Nat.add_zero] at c0 c1
  have C := alone_any side t0 wA hg hl
  obtain ⟨r, hr⟩ : ∃ r, aloneR (pr t0) side = r := ⟨_, rfl⟩
  rw [hr] at C ⊢
  have C1 := Lib.hid C
  have hsz := Lib.hid (show w.heap.size < wA.heap.size by have := n1.out; omega)
  clear h hA hg C hr
  go_enter Try.func10, Try.ntmps10
  go_upto_region 1 with (fail)
  rw [hwA.out]
  go_wp2_with fail
  refine C1.out.mono ?_
  rintro e w2 ⟨t, rfl, hp, hG, hL, hb2⟩
  clear c0 c1
  obtain ⟨e0, e1, f0, f1⟩ := (J.out.kept hb2).see
  obtain ⟨w9, hw9, q1, q2, q3, h0, h1⟩ := tres_put z.out (Nat.le_refl _) hsz.out (J.out.kept hb2) hG hL hb2
  clear hG hL hb2
  go_wp2_with fail
  rw [hw9.out]
  refine bodyPost_ret (v := .tuple #[.agg #[.slice t.sa t.sl t.sc, .slice t.ca t.cl t.cc], .int .i64 r.1]) ?_ rfl ⟨t, rfl, hp, q1.out, q2.out, q3.out⟩
  simp [results, Try.results10, go_sem, h0, h1]

set_option maxRecDepth 100000 in
set_option maxHeartbeats 4000000 in
theorem mjoin_more (side : Int) (b off n cap : Nat) (t0 : TV) (us : List TV) (w : World) (h : Gsl w (some ⟨b, off, none⟩) (n + 2) cap (t0 :: us)) (hl : t0.cl + (us.map fun t => t.cl).sum ≤ 1000) :
    Calls Try.prog 10 #[.int .i64 side, .slice (some ⟨b, off, none⟩) (n + 2 : Nat) cap] w (TRes w (goJ side (0, pr t0) (us.map pr))) := by
  obtain ⟨wA, hwA, J4, z4, n4⟩ := grid_box w (.slice none 0 0) (.slice none 0 0)
  obtain ⟨wB, hwB, J6, z6, n6⟩ := grid_box wA (.slice t0.sa t0.sl t0.sc) (.slice t0.ca t0.cl t0.cc)
  rw [n4.out] at J6
  have z := Lib.hid (z4.out.trans (z6.out.mono z4.out.size))
  have J4B := Lib.hid (J4.out.kept z6.out)
  have hul : us.length = n + 1 := by have := h.len; simpa using this
  have hroom := h.room
  have hfits := h.fits
  obtain ⟨c0, c1, hg0⟩ := (h.kept z4.out).cell (j := 0) rfl
  simp only [Nat.zero_mul, Nat.add_zero] at c0 c1
  have hgB := Lib.hid (hg0.kept z6.out)
  have hszB := Lib.hid (show w.heap.size + 2 = wB.heap.size by have := n4.out; have := n6.out; omega)
  have H := Lib.hid (fun w1 (hb : Below w.heap.size w w1) k (hk : k < n + 1) => (by
    obtain ⟨x, hx⟩ : ∃ x, us[k]? = some x := ⟨_, List.getElem?_eq_getElem (by omega)⟩
    obtain ⟨d0, d1, hg⟩ := (h.kept hb).cell (j := k + 1) (t := x) (by simpa using hx)
    rw [show off + (k + 1) * 2 = off + 2 + k * 2 by omega] at d0 d1
    exact ⟨x, hx, d0, d1, hg⟩ : ∃ x : TV, us[k]? = some x ∧ w1.cell? ⟨b, off + 2 + k * 2, none⟩ = some (.slice x.sa x.sl x.sc) ∧ w1.cell? ⟨b, off + 2 + k * 2 + 1, none⟩ = some (.slice x.ca x.cl x.cc) ∧ Good x w1))
  obtain ⟨R, hR⟩ : ∃ R, goJ side (0, pr t0) (us.map pr) = R := ⟨_, rfl⟩
  rw [hR]
  have hR0 := Lib.hid hR
  have hl0 := Lib.hid hl
  have hul0 := Lib.hid hul
  have d1 : ((n : Int) + 2 == 0) = false := beq_eq_false_iff_ne.2 (by omega)
  have d2 : ((n : Int) + 2 == 1) = false := beq_eq_false_iff_ne.2 (by omega)
  have d3 : ¬ cap = 1 := by omega
  clear h hg0 hR hl hul
  go_enter Try.func10, Try.ntmps10
  go_upto_region 1 with (fail)
  rw [hwA.out]
  go_upto_region 6 with (fail)
  rw [hwB.out]
  rw [n4.out]
  clear c0 c1
  go_upto_region 7 with (fail)
  have S0 := Lib.hid (show goJ side (0, pr t0) ((us.drop 0).map pr) = R by rw [List.drop_zero]; exact hR0.out)
  have L0 := Lib.hid (show t0.cl + ((us.drop 0).map fun t => t.cl).sum ≤ 1000 by rw [List.drop_zero]; exact hl0.out)
  go_loopw [31] (fun i wr => ∃ (k : Nat) (J : TV), k ≤ n + 1 ∧ i = .int .i64 k ∧ Hid (GAt wr (w.heap.size + 1) (.slice J.sa J.sl J.sc) (.slice J.ca J.cl J.cc)) ∧ Hid (GAt wr w.heap.size (.slice none 0 0) (.slice none 0 0)) ∧ Hid (Good J wr) ∧ Hid (0 < k → Lies J (w.heap.size + 2) wr.heap.size) ∧ Hid (Below w.heap.size w wr) ∧ Hid (w.heap.size + 2 ≤ wr.heap.size) ∧ Hid (goJ side (0, pr J) ((us.drop k).map pr) = R) ∧ Hid (J.cl + ((us.drop k).map fun t => t.cl).sum ≤ 1000)) (fun i _ => n + 1 - (intOf i).toNat)
  case atStart => exact ⟨0, t0, Nat.zero_le _, rfl, J6, J4B, hgB, Lib.hid (fun h => by omega), z, Lib.hid (by rw [hszB.out]; exact Nat.le_refl _), S0, L0⟩
  case round =>
    obtain ⟨k, J, hk, rfl, G6, G4, hJ, hlies, hbr, hsz, hS, hL⟩ := hrel
    by_cases hlt : k < n + 1
    · obtain ⟨x, hx, c0, c1, hgx⟩ := H.out wr hbr.out k hlt
      have hdrop : us.drop k = x :: us.drop (k + 1) := by
        rw [List.drop_eq_getElem_cons (by rw [hul0.out]; exact hlt)]
        congr 1
        have := (List.getElem?_eq_some_iff.1 hx).2
        exact this
      have hS' := hS.out
      have hL' := hL.out
      rw [hdrop, List.map_cons] at hS'
      rw [hdrop, List.map_cons, List.sum_cons] at hL'
      obtain ⟨wX, hwX, JX, zX, nX⟩ := grid_box wr (.slice x.sa x.sl x.sc) (.slice x.ca x.cl x.cc)
      have C := tjoin_any J x side wX (hJ.out.kept zX.out) (hgx.kept zX.out) (by omega) (by omega)
      obtain ⟨r, hr⟩ : ∃ r, joinR (pr J) (pr x) side = r := ⟨_, rfl⟩
      have hok : r.1 = 0 → r.2.2.length = J.cs.length + x.cs.length := fun h0 => by rw [← hr] at h0 ⊢; exact (joinR_ok h0).2.1
      have hno : r.1 ≠ 0 → r = (r.1, nilP) := fun h0 => by rw [← hr] at h0 ⊢; exact joinR_nil h0
      unfold goJ at hS'
      rw [hr] at hS' C
      have e1 := hJ.out.len
      have e2 := hgx.len
      obtain ⟨x1, p1⟩ := r
      have C1 := Lib.hid C
      have hS2 := Lib.hid hS'
      have hL2 := Lib.hid hL'
      have hok2 := Lib.hid hok
      have hno2 := Lib.hid hno
      have e12 := Lib.hid (And.intro e1 e2)
      have G6x := Lib.hid (G6.out.kept zX.out)
      have G4x := Lib.hid (G4.out.kept zX.out)
      have bx := Lib.hid (hbr.out.trans (zX.out.mono hbr.out.size))
      have hszx := Lib.hid (Nat.le_trans hsz.out zX.out.size)
      clear C hS hL hS' hL' hok hno hdrop hx hgx e1 e2 hr hJ hlies
      go_upto_region 9 with (fail)
      rw [hwX.out]
      clear c0 c1
      obtain ⟨g0, g1, -, -⟩ := G6x.out.see
      obtain ⟨x0, x1', -, -⟩ := JX.out.see
      by_cases hx0 : x1 = 0
      · subst hx0
        go_wp2_with fail
        refine C1.out.mono ?_
        rintro e w2 ⟨t, rfl, hp, hG, hLi, hb2⟩
        obtain ⟨w3, hw3, J3, z3, n3⟩ := grid_box w2 (.slice t.sa t.sl t.sc) (.slice t.ca t.cl t.cc)
        clear g0 g1 x0 x1'
        go_upto_region 10 with (fail)
        rw [hw3.out]
        have hb3 := hb2.trans (z3.out.mono hb2.size)
        have G6y := G6x.out.kept hb3
        have G4y := G4x.out.kept hb3
        have by3 := bx.out.trans (hb3.mono bx.out.size)
        obtain ⟨f0, f1, u0, u1⟩ := G6y.see
        obtain ⟨j0, j1, -, -⟩ := J3.out.see
        have hlo : ∀ b ∈ tblocks t, w.heap.size + 2 ≤ b := fun b hb => Nat.le_trans hszx.out (hLi b hb).1
        obtain ⟨w4, hw4⟩ : ∃ w4, (w3.setCell ⟨w.heap.size + 1, 0, none⟩ (.slice t.sa t.sl t.sc)).setCell ⟨w.heap.size + 1, 1, none⟩ (.slice t.ca t.cl t.cc) = w4 := ⟨_, rfl⟩
        have F6 : Hid (GAt w4 (w.heap.size + 1) (.slice t.sa t.sl t.sc) (.slice t.ca t.cl t.cc)) := Lib.hid (by rw [← hw4]; exact G6y.set _ _)
        have F4 : Hid (GAt w4 w.heap.size (.slice none 0 0) (.slice none 0 0)) := Lib.hid (by rw [← hw4]; exact (G4y.other (p := ⟨w.heap.size + 1, 0, none⟩) _ (by simp)).other (p := ⟨w.heap.size + 1, 1, none⟩) _ (by simp))
        have FG : Hid (Good t w4) := Lib.hid (by
          rw [← hw4]
          exact ((hG.kept z3.out).set _ (fun b hb => by have := hlo b hb; simp; omega)).set _ (fun b hb => by have := hlo b hb; simp; omega))
        have s4 : w4.heap.size = w3.heap.size := by rw [← hw4]; simp
        have FL : Hid (0 < k + 1 → Lies t (w.heap.size + 2) w4.heap.size) := Lib.hid (fun _ b hb => ⟨hlo b hb, by have := (hLi b hb).2; have := z3.out.size; omega⟩)
        have FB : Hid (Below w.heap.size w w4) := Lib.hid (by
          rw [← hw4]
          exact (by3.setCell (p := ⟨w.heap.size + 1, 0, none⟩) (Nat.le_succ _) _).setCell (p := ⟨w.heap.size + 1, 1, none⟩) (Nat.le_succ _) _)
        have FZ : Hid (w.heap.size + 2 ≤ w4.heap.size) := Lib.hid (by have := hszx.out; have := hb3.size; omega)
        have hp2 : pr t = p1 := hp
        have FS : Hid (goJ side (0, pr t) ((us.drop (k + 1)).map pr) = R) := Lib.hid (by
          have := hS2.out
          simp only [ne_eq, not_true_eq_false, if_false] at this
          rw [hp2]
          exact this)
        have FT : Hid (t.cl + ((us.drop (k + 1)).map fun t => t.cl).sum ≤ 1000) := Lib.hid (by
          have h1 := hL2.out
          have h2 := hok2.out (by first | rfl | trivial)
          have h3 := e12.out
          have h4 := hG.len
          have h5 : t.cs.length = p1.2.length := by rw [← hp2]; rfl
          omega)
        have HW4 := Lib.hid hw4
        clear hp hG hLi hb2 G6y G4y hb3 by3 hlo s4 hp2 hw4
        go_upto_region 13 with (fail)
        rw [HW4.out]
        clear u0 u1 f0 f1 j0 j1
        go_wp2_with fail
        go_roundw
        case rel => exact ⟨k + 1, t, by omega, by go_num, F6, F4, FG, FL, FB, FZ, FS, FT⟩
        case measure => (simp [intOf]; try omega)
      · have dx : decide (x1 = 0) = false := by simpa using hx0
        go_wp2_with fail
        refine C1.out.mono ?_
        rintro e w2 ⟨t, rfl, hp, hG, hLi, hb2⟩
        obtain ⟨w3, hw3, J3, z3, n3⟩ := grid_box w2 (.slice t.sa t.sl t.sc) (.slice t.ca t.cl t.cc)
        clear g0 g1 x0 x1'
        go_upto_region 10 with (fail)
        rw [hw3.out]
        have hb3 := hb2.trans (z3.out.mono hb2.size)
        have G4y := G4x.out.kept hb3
        have by3 := bx.out.trans (hb3.mono bx.out.size)
        obtain ⟨e0, e1, f0, f1⟩ := G4y.see
        obtain ⟨w9, hw9, R9, h0, h1⟩ := nil_put by3 (Nat.le_refl _) G4y x1
        have RE : R = (x1, nilP) := by
          have := hS2.out
          rw [if_pos (by exact hx0)] at this
          rw [← this]
          exact hno2.out hx0
        have R9' : Hid (TRes w R (.returned (.tuple #[.agg #[.slice none 0 0, .slice none 0 0], .int .i64 x1])) w9) := Lib.hid (by rw [RE]; exact R9.out)
        have RE' := Lib.hid RE
        clear RE R9 hb3 G4y by3 hp hG hLi hb2
        go_wp2_with fail
        rw [hw9.out]
        refine bodyPost_ret (v := .tuple #[.agg #[.slice none 0 0, .slice none 0 0], .int .i64 x1]) ?_ rfl R9'.out
        simp [results, Try.results10, go_sem, h0, h1]
    · obtain rfl : k = n + 1 := by omega
      have hS' := hS.out
      rw [List.drop_of_length_le (by rw [hul0.out]; omega)] at hS'
      have hS2 := Lib.hid (show (0, pr J) = R from hS')
      obtain ⟨g0, g1, -, -⟩ := G6.out.see
      obtain ⟨e0, e1, f0, f1⟩ := G4.out.see
      obtain ⟨h0, h1, -, -⟩ := (G4.out.set (.slice J.sa J.sl J.sc) (.slice J.ca J.cl J.cc)).see
      have hlo : ∀ b ∈ tblocks J, b ≠ w.heap.size := fun b hb => by have := (hlies.out (by omega) b hb).1; omega
      obtain ⟨w4, hw4⟩ : ∃ w4, (wr.setCell ⟨w.heap.size, 0, none⟩ (.slice J.sa J.sl J.sc)).setCell ⟨w.heap.size, 1, none⟩ (.slice J.ca J.cl J.cc) = w4 := ⟨_, rfl⟩
      have s4 : w4.heap.size = wr.heap.size := by rw [← hw4]; simp
      have F : Hid (Good J w4 ∧ Lies J w.heap.size w4.heap.size ∧ Below w.heap.size w w4) := Lib.hid (by
        refine ⟨?_, ?_, ?_⟩
        · rw [← hw4]; exact (hJ.out.set _ hlo).set _ hlo
        · rw [s4]; exact (hlies.out (by omega)).le (by omega) (Nat.le_refl _)
        · rw [← hw4]; exact (hbr.out.setCell (p := ⟨w.heap.size, 0, none⟩) (Nat.le_refl _) _).setCell (p := ⟨w.heap.size, 1, none⟩) (Nat.le_refl _) _)
      rw [hw4] at h0 h1
      have HW4 := Lib.hid hw4
      clear hS hS' hlo s4 hw4 hL hJ hlies hlt
      go_wp2_with fail
      rw [HW4.out]
      refine bodyPost_ret (v := .tuple #[.agg #[.slice J.sa J.sl J.sc, .slice J.ca J.cl J.cc], .int .i64 0]) ?_ rfl ⟨J, ?_, ?_, F.out⟩
      · simp [results, Try.results10, go_sem, h0, h1]
      · rw [← hS2.out]
      · rw [← hS2.out]

/-- What Join says of any tensors. -/
theorem mjoin_any (side : Int) (a : Option Addr) (len cap : Nat) (ts : List TV) (w : World) (h : Gsl w a len cap ts) (hl : (ts.map fun t => t.cl).sum ≤ 1000) :
    Calls Try.prog 10 #[.int .i64 side, .slice a len cap] w (TRes w (mjoinR side (ts.map pr))) := by
  match ts, h, hl with
  | [], h, _ =>
    obtain rfl : len = 0 := h.len.symm
    exact mjoin_none side a cap w
  | [t0], h, hl =>
    obtain rfl : len = 1 := h.len.symm
    obtain ⟨b, off, rfl⟩ := h.addr (by omega)
    exact mjoin_one side b off cap t0 w h (by simpa using hl)
  | t0 :: t1 :: r, h, hl =>
    obtain ⟨n, rfl⟩ : ∃ n, len = n + 2 := ⟨r.length, by have := h.len; simp at this; omega⟩
    obtain ⟨b, off, rfl⟩ := h.addr (by omega)
    exact mjoin_more side b off n cap t0 (t1 :: r) w h (by simpa using hl)
end Go.Proofs.Ytieegaojcjhfdaa

/-
  Layer 5 in mathematics: the output cell of a kind, the gradients of its inputs, the number of its inputs.
-/
namespace Go.Proofs.Ytieegaojcjhfdaa
set_option linter.unusedVariables false
set_option linter.unusedSimpArgs false

/-- A quarter of x, and a half. -/
def lineF (x : Int) : Int := sat (mulF x 1073741824 + 2147483648)
theorem lineF_bounds (x : Int) : -9223372036854775808 ≤ lineF x ∧ lineF x ≤ 9223372036854775807 := sat_bounds _

/-- The output cell. -/
def pcell (kind k x y : Int) : Int :=
  if kind = 1 then (if 0 < x then x else 0)
  else if kind = 2 then (if 0 < x then x else mulF x k)
  else if kind = 3 then clampF x (-4294967296) 4294967296
  else if kind = 4 then clampF (lineF x) 0 4294967296
  else if kind = 5 then mulF x k
  else if kind = 6 then sat (x + y)
  else if kind = 7 then mulF x y
  else 0
theorem pcell_1p {k x y : Int} (h : 0 < x) : pcell 1 k x y = x := by unfold pcell; rw [if_pos rfl, if_pos h]
theorem pcell_1n {k x y : Int} (h : ¬ 0 < x) : pcell 1 k x y = 0 := by unfold pcell; rw [if_pos rfl, if_neg h]
theorem pcell_2p {k x y : Int} (h : 0 < x) : pcell 2 k x y = x := by unfold pcell; rw [if_neg (by decide), if_pos rfl, if_pos h]
theorem pcell_2n {k x y : Int} (h : ¬ 0 < x) : pcell 2 k x y = mulF x k := by unfold pcell; rw [if_neg (by decide), if_pos rfl, if_neg h]
theorem pcell_3 {k x y : Int} : pcell 3 k x y = clampF x (-4294967296) 4294967296 := by unfold pcell; rw [if_neg (by decide), if_neg (by decide), if_pos rfl]
theorem pcell_4 {k x y : Int} : pcell 4 k x y = clampF (lineF x) 0 4294967296 := by unfold pcell; rw [if_neg (by decide), if_neg (by decide), if_neg (by decide), if_pos rfl]
theorem pcell_5 {k x y : Int} : pcell 5 k x y = mulF x k := by unfold pcell; rw [if_neg (by decide), if_neg (by decide), if_neg (by decide), if_neg (by decide), if_pos rfl]
theorem pcell_6 {k x y : Int} : pcell 6 k x y = sat (x + y) := by unfold pcell; rw [if_neg (by decide), if_neg (by decide), if_neg (by decide), if_neg (by decide), if_neg (by decide), if_pos rfl]
theorem pcell_7 {k x y : Int} : pcell 7 k x y = mulF x y := by unfold pcell; rw [if_neg (by decide), if_neg (by decide), if_neg (by decide), if_neg (by decide), if_neg (by decide), if_neg (by decide), if_pos rfl]
theorem pcell_no {kind k x y : Int} (h1 : kind ≠ 1) (h2 : kind ≠ 2) (h3 : kind ≠ 3) (h4 : kind ≠ 4) (h5 : kind ≠ 5) (h6 : kind ≠ 6) (h7 : kind ≠ 7) : pcell kind k x y = 0 := by
  unfold pcell; rw [if_neg h1, if_neg h2, if_neg h3, if_neg h4, if_neg h5, if_neg h6, if_neg h7]

theorem clampF_bounds {x lo hi : Int} (h : lo ≤ hi) : lo ≤ clampF x lo hi ∧ clampF x lo hi ≤ hi := by
  unfold clampF
  split
  · omega
  · split <;> omega
theorem clampF_mono {x y lo hi : Int} (h : x ≤ y) (hl : lo ≤ hi) : clampF x lo hi ≤ clampF y lo hi := by
  unfold clampF
  repeat' split
  all_goals omega
theorem pcell_bounds {kind k x y : Int} (hx1 : -9223372036854775808 ≤ x) (hx2 : x ≤ 9223372036854775807) : -9223372036854775808 ≤ pcell kind k x y ∧ pcell kind k x y ≤ 9223372036854775807 := by
  have m1 := mulF_bounds x k
  have m2 := mulF_bounds x y
  have m3 := sat_bounds (x + y)
  have m4 := clampF_bounds (x := x) (lo := -4294967296) (hi := 4294967296) (by omega)
  have m5 := clampF_bounds (x := lineF x) (lo := 0) (hi := 4294967296) (by omega)
  unfold pcell
  repeat' split
  all_goals omega

/-- What goes back to x. -/
def pslx (kind k x y g : Int) : Int :=
  if kind = 1 then (if 0 < x then g else 0)
  else if kind = 2 then (if 0 < x then g else mulF g k)
  else if kind = 3 then (if -4294967296 < x ∧ x < 4294967296 then g else 0)
  else if kind = 4 then (if 0 < lineF x ∧ lineF x < 4294967296 then mulF g 1073741824 else 0)
  else if kind = 5 then mulF g k
  else if kind = 6 then g
  else if kind = 7 then mulF g y
  else 0
/-- What goes back to y. -/
def psly (kind x g : Int) : Int := if kind = 6 then g else if kind = 7 then mulF g x else 0
theorem pslx_1p {k x y g : Int} (h : 0 < x) : pslx 1 k x y g = g := by unfold pslx; rw [if_pos rfl, if_pos h]
theorem pslx_1n {k x y g : Int} (h : ¬ 0 < x) : pslx 1 k x y g = 0 := by unfold pslx; rw [if_pos rfl, if_neg h]
theorem pslx_2p {k x y g : Int} (h : 0 < x) : pslx 2 k x y g = g := by unfold pslx; rw [if_neg (by decide), if_pos rfl, if_pos h]
theorem pslx_2n {k x y g : Int} (h : ¬ 0 < x) : pslx 2 k x y g = mulF g k := by unfold pslx; rw [if_neg (by decide), if_pos rfl, if_neg h]
theorem pslx_3p {k x y g : Int} (h : -4294967296 < x) (h' : x < 4294967296) : pslx 3 k x y g = g := by unfold pslx; rw [if_neg (by decide), if_neg (by decide), if_pos rfl, if_pos ⟨h, h'⟩]
theorem pslx_3n {k x y g : Int} (h : ¬ (-4294967296 < x ∧ x < 4294967296)) : pslx 3 k x y g = 0 := by unfold pslx; rw [if_neg (by decide), if_neg (by decide), if_pos rfl, if_neg h]
theorem pslx_4p {k x y g : Int} (h : 0 < lineF x) (h' : lineF x < 4294967296) : pslx 4 k x y g = mulF g 1073741824 := by unfold pslx; rw [if_neg (by decide), if_neg (by decide), if_neg (by decide), if_pos rfl, if_pos ⟨h, h'⟩]
theorem pslx_4n {k x y g : Int} (h : ¬ (0 < lineF x ∧ lineF x < 4294967296)) : pslx 4 k x y g = 0 := by unfold pslx; rw [if_neg (by decide), if_neg (by decide), if_neg (by decide), if_pos rfl, if_neg h]
theorem pslx_no {kind k x y g : Int} (h1 : kind ≠ 1) (h2 : kind ≠ 2) (h3 : kind ≠ 3) (h4 : kind ≠ 4) (h5 : kind ≠ 5) (h6 : kind ≠ 6) (h7 : kind ≠ 7) : pslx kind k x y g = 0 := by
  unfold pslx; rw [if_neg h1, if_neg h2, if_neg h3, if_neg h4, if_neg h5, if_neg h6, if_neg h7]
theorem psly_no {kind x g : Int} (h6 : kind ≠ 6) (h7 : kind ≠ 7) : psly kind x g = 0 := by unfold psly; rw [if_neg h6, if_neg h7]
theorem pslx_5 {k x y g : Int} : pslx 5 k x y g = mulF g k := by unfold pslx; rw [if_neg (by decide), if_neg (by decide), if_neg (by decide), if_neg (by decide), if_pos rfl]
theorem pslx_6 {k x y g : Int} : pslx 6 k x y g = g := by unfold pslx; rw [if_neg (by decide), if_neg (by decide), if_neg (by decide), if_neg (by decide), if_neg (by decide), if_pos rfl]
theorem pslx_7 {k x y g : Int} : pslx 7 k x y g = mulF g y := by unfold pslx; rw [if_neg (by decide), if_neg (by decide), if_neg (by decide), if_neg (by decide), if_neg (by decide), if_neg (by decide), if_pos rfl]
theorem psly_6 {x g : Int} : psly 6 x g = g := by unfold psly; rw [if_pos rfl]
theorem psly_7 {x g : Int} : psly 7 x g = mulF g x := by unfold psly; rw [if_neg (by decide), if_pos rfl]
theorem pslx_bounds {kind k x y g : Int} (hg1 : -9223372036854775808 ≤ g) (hg2 : g ≤ 9223372036854775807) : -9223372036854775808 ≤ pslx kind k x y g ∧ pslx kind k x y g ≤ 9223372036854775807 := by
  have m1 := mulF_bounds g k
  have m2 := mulF_bounds g y
  have m3 := mulF_bounds g 1073741824
  unfold pslx
  repeat' split
  all_goals omega
theorem psly_bounds {kind x g : Int} (hg1 : -9223372036854775808 ≤ g) (hg2 : g ≤ 9223372036854775807) : -9223372036854775808 ≤ psly kind x g ∧ psly kind x g ≤ 9223372036854775807 := by
  have m2 := mulF_bounds g x
  unfold psly
  repeat' split
  all_goals omega

/-- How many inputs a kind has. -/
def insN (kind : Int) : Int := if 1 ≤ kind ∧ kind ≤ 5 then 1 else if kind = 6 ∨ kind = 7 then 2 else 0
theorem insN_one {kind : Int} (h : 1 ≤ kind ∧ kind ≤ 5) : insN kind = 1 := by unfold insN; rw [if_pos h]
theorem insN_two {kind : Int} (h : kind = 6 ∨ kind = 7) : insN kind = 2 := by unfold insN; rw [if_neg (by omega), if_pos h]
theorem insN_no {kind : Int} (h : ¬ (1 ≤ kind ∧ kind ≤ 7)) : insN kind = 0 := by unfold insN; rw [if_neg (by omega), if_neg (by omega)]
theorem insN_cases (kind : Int) : (insN kind = 1 ∧ 1 ≤ kind ∧ kind ≤ 5) ∨ (insN kind = 2 ∧ (kind = 6 ∨ kind = 7)) ∨ (insN kind = 0 ∧ ¬ (1 ≤ kind ∧ kind ≤ 7)) := by
  by_cases h : 1 ≤ kind ∧ kind ≤ 5
  · exact .inl ⟨insN_one h, h⟩
  · by_cases h' : kind = 6 ∨ kind = 7
    · exact .inr (.inl ⟨insN_two h', h'⟩)
    · exact .inr (.inr ⟨insN_no (by omega), by omega⟩)
end Go.Proofs.Ytieegaojcjhfdaa

/-
  Contracts of package point: Ins, Cell, Slope.
-/
namespace Go.Proofs.Ytieegaojcjhfdaa
open Go.RowKit
set_option linter.unusedVariables false
set_option linter.unusedSimpArgs false

theorem kinds (kind : Int) : kind = 1 ∨ kind = 2 ∨ kind = 3 ∨ kind = 4 ∨ kind = 5 ∨ kind = 6 ∨ kind = 7 ∨ ((kind == 1) = false ∧ (kind == 2) = false ∧ (kind == 3) = false ∧ (kind == 4) = false ∧ (kind == 5) = false ∧ (kind == 6) = false ∧ (kind == 7) = false) := by
  simp only [beq_eq_false_iff_ne]
  omega

def passF (g : Int) (on : Bool) : Int := if on = true then g else 0
theorem passF_yes (g : Int) : passF g true = g := rfl
theorem passF_no (g : Int) : passF g false = 0 := rfl
end Go.Proofs.Ytieegaojcjhfdaa
/-
  Contracts of the reference package of layer 1: each function's result, for every argument.
-/
namespace Go.Proofs.Ytieegaojcjhfdaa
open Go.RowKit
set_option linter.unusedVariables false
set_option linter.unusedSimpArgs false

theorem ret_wide {a b c d : Int} (h : a = b) (h' : c = d) : Ending.returned (.agg #[.int .u64 a, .int .u64 c]) = .returned (.agg #[.int .u64 b, .int .u64 d]) := by rw [h, h']

end Go.Proofs.Ytieegaojcjhfdaa
/-
  Contracts of the reference package of layer 1: the product by its bits.
-/
namespace Go.Proofs.Ytieegaojcjhfdaa
open Go.RowKit
set_option linter.unusedVariables false
set_option linter.unusedSimpArgs false

/-- A block of the call's own holds two words. -/
def TwoAt (w : World) (b : Nat) (h l : Int) : Prop :=
  w.cell? ⟨b, 0, none⟩ = some (.int .u64 h) ∧ w.cell? ⟨b, 1, none⟩ = some (.int .u64 l) ∧ w.frozen? ⟨b, 0, none⟩ = false ∧ w.frozen? ⟨b, 1, none⟩ = false

theorem TwoAt.below {W w1 : World} {b : Nat} {h l : Int} (t : TwoAt W b h l) (hb : Below W.heap.size W w1) (hs : b < W.heap.size) : TwoAt w1 b h l :=
  ⟨((bcell hb).1 b 0 hs).trans t.1, ((bcell hb).1 b 1 hs).trans t.2.1, ((bcell hb).2 b 0 hs).trans t.2.2.1, ((bcell hb).2 b 1 hs).trans t.2.2.2⟩

theorem TwoAt.store {w : World} {b : Nat} {h l : Int} (t : TwoAt w b h l) (h' l' : Int) :
    TwoAt ((w.setCell ⟨b, 0, none⟩ (.int .u64 h')).setCell ⟨b, 1, none⟩ (.int .u64 l')) b h' l' := by
  obtain ⟨t1, t2, t3, t4⟩ := t
  refine ⟨?_, ?_, ?_, ?_⟩
  · rw [World.cell?_setCell_other _ _ _ _ (by simp), World.cell?_setCell_same _ _ _ t1]
  · exact World.cell?_setCell_same _ _ _ (u := .int .u64 l) (by rw [World.cell?_setCell_other _ _ _ _ (by simp)]; exact t2)
  · simp [t3]
  · simp [t4]
theorem TwoAt.other {w : World} {b c : Nat} {h l : Int} (t : TwoAt w b h l) (hne : c ≠ b) (o : Nat) (v : Value) : TwoAt (w.setCell ⟨c, o, none⟩ v) b h l := by
  obtain ⟨t1, t2, t3, t4⟩ := t
  refine ⟨?_, ?_, ?_, ?_⟩
  · rw [World.cell?_setCell_other _ _ _ _ (by simp [hne])]; exact t1
  · rw [World.cell?_setCell_other _ _ _ _ (by simp [hne])]; exact t2
  · simp [t3]
  · simp [t4]

end Go.Proofs.Ytieegaojcjhfdaa
/-
  The reference product of layer 1 is the product of the plain mathematics.
-/
namespace Go.Proofs.Ytieegaojcjhfdaa
open Go.RowKit
set_option linter.unusedVariables false
set_option linter.unusedSimpArgs false

theorem refm_up (neg : Bool) (P Q : Int) (h0 : 0 ≤ P) (hQ : P / 4294967296 % 18446744073709551616 = Q) (hu : up (P / 4294967296) (P % 4294967296) 4294967296 = true) (hq : Q + 1 < 18446744073709551616) :
    heldF (Q + 1) (decide (0 < P / 18446744073709551616 / 4294967296)) neg = sgn neg (rndFull (P / 4294967296) (P % 4294967296) 4294967296) := by
  unfold heldF rndFull
  rw [if_pos hu]
  by_cases c : 0 < P / 18446744073709551616 / 4294967296
  · rw [if_pos (by simpa using c), sgn_big _ _ (by omega), sgn_big _ _ (by omega)]
  · rw [if_neg (by simpa using c)]
    congr 1; omega
theorem refm_wrap (neg : Bool) (P Q : Int) (h0 : 0 ≤ P) (hQ : P / 4294967296 % 18446744073709551616 = Q) (hu : up (P / 4294967296) (P % 4294967296) 4294967296 = true) (hq : Q + 1 = 18446744073709551616) :
    heldF 0 true neg = sgn neg (rndFull (P / 4294967296) (P % 4294967296) 4294967296) := by
  unfold rndFull
  rw [if_pos hu, heldF_true, sgn_big _ _ (by omega), sgn_big _ _ (by omega)]
theorem refm_no (neg : Bool) (P Q : Int) (h0 : 0 ≤ P) (hQ : P / 4294967296 % 18446744073709551616 = Q) (hu : up (P / 4294967296) (P % 4294967296) 4294967296 = false) :
    heldF Q (decide (0 < P / 18446744073709551616 / 4294967296)) neg = sgn neg (rndFull (P / 4294967296) (P % 4294967296) 4294967296) := by
  unfold heldF
  have hr : rndFull (P / 4294967296) (P % 4294967296) 4294967296 = P / 4294967296 := if_neg (by rw [hu]; decide)
  rw [hr]
  by_cases c : 0 < P / 18446744073709551616 / 4294967296
  · rw [if_pos (by simpa using c), sgn_big _ _ (by omega), sgn_big _ _ (by omega)]
  · rw [if_neg (by simpa using c)]
    congr 1; omega

end Go.Proofs.Ytieegaojcjhfdaa
/-
  Contracts of the reference of layer 5: Ins, Cell, Slope.
-/
namespace Go.Proofs.Ytieegaojcjhfdaa
open Go.RowKit
set_option linter.unusedVariables false
set_option linter.unusedSimpArgs false

end Go.Proofs.Ytieegaojcjhfdaa
