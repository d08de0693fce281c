/-
  The contract of package dense's Back: the gradients.
-/
import Derived.Test.YtlpecdfiagklpaaDenseD
import Derived.Test.YtlpecdfiagklpaaRange
namespace Go.Proofs.Ytlpecdfiagklpaa
open Go.RowKit
set_option linter.unusedVariables false
set_option linter.unusedSimpArgs false

/-- A list of what was copied: its box, the six slices, the world. -/
structure GQ where
  D : Nat
  A1 : Option Addr
  c1 : Nat
  A1p : Option Addr
  c1p : Nat
  A2 : Option Addr
  c2 : Nat
  A2p : Option Addr
  c2p : Nat
  A3 : Option Addr
  c3 : Nat
  A3p : Option Addr
  c3p : Nat
  W : World
/-- Two slices lie apart. -/
def Apart (A B : Option Addr) : Prop := ∀ p q, A = some p → B = some q → p.block ≠ q.block
def FreeOf (D : Nat) (A : Option Addr) : Prop := ∀ p, A = some p → p.block ≠ D
def GP (w2 : World) (s1 d1 : List Int) (l2 : Nat) (s2 d2 : List Int) (l3 : Nat) (s3 d3 : List Int) (m n : Nat) (q : GQ) : Prop :=
  GrAt q.W q.D (.slice q.A1 2 q.c1) (.slice q.A1p (m * n) q.c1p) (.slice q.A2 l2 q.c2) (.slice q.A2p m q.c2p) (.slice q.A3 l3 q.c3) (.slice q.A3p n q.c3p) ∧
  (q.W.ownsRow w2.heap.size 3 1 (.slice q.A1 2 q.c1) 2 (s1.map (Value.int .i64)) ∧ q.W.ownsRow w2.heap.size 47 1 (.slice q.A1p (m * n) q.c1p) (m * n) (d1.map (Value.int .i64))) ∧
  (q.W.ownsRow w2.heap.size 3 1 (.slice q.A2 l2 q.c2) l2 (s2.map (Value.int .i64)) ∧ q.W.ownsRow w2.heap.size 47 1 (.slice q.A2p m q.c2p) m (d2.map (Value.int .i64))) ∧
  (q.W.ownsRow w2.heap.size 3 1 (.slice q.A3 l3 q.c3) l3 (s3.map (Value.int .i64)) ∧ q.W.ownsRow w2.heap.size 47 1 (.slice q.A3p n q.c3p) n (d3.map (Value.int .i64))) ∧
  (Apart q.A1 q.A1p ∧ Apart q.A2 q.A1p ∧ Apart q.A2p q.A1p ∧ Apart q.A3 q.A1p ∧ Apart q.A3p q.A1p) ∧ (Apart q.A1 q.A3p ∧ Apart q.A2 q.A3p ∧ Apart q.A2p q.A3p ∧ Apart q.A3 q.A3p) ∧ (FreeOf q.D q.A1p ∧ FreeOf q.D q.A3p) ∧
  Below w2.heap.size w2 q.W ∧ w2.heap.size ≤ q.D
theorem row_gset {w : World} {B : Nat} {e : TypeId} {k : Nat} {A : Option Addr} {l cp n : Nat} {xs : List Value} {K : Nat} {a b c d x f : Value} (h : w.ownsRow B e k (.slice A l cp) n xs) (hp : FreeOf K A) : (gset w K a b c d x f).ownsRow B e k (.slice A l cp) n xs := by
  have hq : ∀ q, (Value.slice A l cp).ownBlock = some q → q ≠ K := by
    intro q hq
    cases A with
    | none => cases hq
    | some p => cases hq; exact hp p rfl
  exact row_apart (row_apart (row_apart (row_apart (row_apart (row_apart h hq) hq) hq) hq) hq) hq
theorem row_range {w : World} {B : Nat} {e : TypeId} {k : Nat} {A : Option Addr} {l cp n : Nat} {xs : List Value} (h : w.ownsRow B e k (.slice A l cp) n xs) : ∀ p, A = some p → B ≤ p.block ∧ p.block < w.heap.size := by
  rintro p rfl
  exact h.lt p.block rfl
theorem gp_make {w2 wS u1 v1 u2 v2 u3 v3 : World} {D : Nat} {a b c d e f : Value} {A1 A1p A2 A2p A3 A3p : Option Addr} {c1 c1p c2 c2p c3 c3p l2 l3 m n : Nat} {s1 d1 s2 d2 s3 d3 : List Int}
    (JD : GrAt wS D a b c d e f) (hb : Below w2.heap.size w2 wS)
    (o1 : v1.ownsRow u1.heap.size 3 1 (.slice A1 2 c1) 2 (s1.map (Value.int .i64))) (o1p : v1.ownsRow u1.heap.size 47 1 (.slice A1p (m * n) c1p) (m * n) (d1.map (Value.int .i64))) (ne1 : ∀ p q, A1 = some p → A1p = some q → p.block ≠ q.block) (k1 : Below v1.heap.size v1 wS)
    (o2 : v2.ownsRow u2.heap.size 3 1 (.slice A2 l2 c2) l2 (s2.map (Value.int .i64))) (o2p : v2.ownsRow u2.heap.size 47 1 (.slice A2p m c2p) m (d2.map (Value.int .i64))) (ne2 : ∀ p q, A2 = some p → A2p = some q → p.block ≠ q.block) (k2 : Below v2.heap.size v2 wS)
    (o3 : v3.ownsRow u3.heap.size 3 1 (.slice A3 l3 c3) l3 (s3.map (Value.int .i64))) (o3p : v3.ownsRow u3.heap.size 47 1 (.slice A3p n c3p) n (d3.map (Value.int .i64))) (ne3 : ∀ p q, A3 = some p → A3p = some q → p.block ≠ q.block) (k3 : Below v3.heap.size v3 wS)
    (h1 : w2.heap.size ≤ u1.heap.size) (h2 : w2.heap.size ≤ u2.heap.size) (h3 : w2.heap.size ≤ u3.heap.size) (q1 : v1.heap.size ≤ u2.heap.size) (q12 : u2.heap.size ≤ v2.heap.size) (q2 : v2.heap.size ≤ u3.heap.size) (hD : w2.heap.size ≤ D)
    (x1 : D < u1.heap.size ∨ v1.heap.size ≤ D) (x2 : D < u2.heap.size ∨ v2.heap.size ≤ D) (x3 : D < u3.heap.size ∨ v3.heap.size ≤ D) :
    GP w2 s1 d1 l2 s2 d2 l3 s3 d3 m n ⟨D, A1, c1, A1p, c1p, A2, c2, A2p, c2p, A3, c3, A3p, c3p, gset wS D (.slice A1 2 c1) (.slice A1p (m * n) c1p) (.slice A2 l2 c2) (.slice A2p m c2p) (.slice A3 l3 c3) (.slice A3p n c3p)⟩ := by
  have r1 := row_range o1
  have r1p := row_range o1p
  have r2 := row_range o2
  have r2p := row_range o2p
  have r3 := row_range o3
  have r3p := row_range o3p
  refine ⟨JD.set _ _ _ _ _ _, ⟨row_gset (Joins.ownsRow_le (row_kept o1 k1) h1) ?_, row_gset (Joins.ownsRow_le (row_kept o1p k1) h1) ?_⟩, ⟨row_gset (Joins.ownsRow_le (row_kept o2 k2) h2) ?_, row_gset (Joins.ownsRow_le (row_kept o2p k2) h2) ?_⟩, ⟨row_gset (Joins.ownsRow_le (row_kept o3 k3) h3) ?_, row_gset (Joins.ownsRow_le (row_kept o3p k3) h3) ?_⟩,
    ⟨ne1, ?_, ?_, ?_, ?_⟩, ⟨?_, ?_, ?_, ne3⟩, ⟨?_, ?_⟩, gset_below hb hD, hD⟩
  · intro p hp; have := r1 p hp; omega
  · intro p hp; have := r1p p hp; omega
  · intro p hp; have := r2 p hp; omega
  · intro p hp; have := r2p p hp; omega
  · intro p hp; have := r3 p hp; omega
  · intro p hp; have := r3p p hp; omega
  · intro p q hp hq; have := r2 p hp; have := r1p q hq; omega
  · intro p q hp hq; have := r2p p hp; have := r1p q hq; omega
  · intro p q hp hq; have := r3 p hp; have := r1p q hq; omega
  · intro p q hp hq; have := r3p p hp; have := r1p q hq; omega
  · intro p q hp hq; have := r1 p hp; have := r3p q hq; omega
  · intro p q hp hq; have := r2 p hp; have := r3p q hq; omega
  · intro p q hp hq; have := r2p p hp; have := r3p q hq; omega
  · intro p hp; have := r1p p hp; show p.block ≠ D; omega
  · intro p hp; have := r3p p hp; show p.block ≠ D; omega
/-- Three new tensors and no error. -/
def OkD (w : World) (s1 d1 s2 d2 s3 d3 : List Int) (e : Ending) (w' : World) : Prop :=
  ∃ a b c : TV, e = .returned (.tuple #[.agg #[.slice a.sa a.sl a.sc, .slice a.ca a.cl a.cc, .slice b.sa b.sl b.sc, .slice b.ca b.cl b.cc, .slice c.sa c.sl c.sc, .slice c.ca c.cl c.cc], .int .i64 0]) ∧
    a.At w' ∧ b.At w' ∧ c.At w' ∧ (a.ss = s1 ∧ a.cs = d1) ∧ (b.ss = s2 ∧ b.cs = d2) ∧ (c.ss = s3 ∧ c.cs = d3) ∧ Below w.heap.size w w'
theorem apart_own {A : Option Addr} {gw gx l cp : Nat} (h1 : Apart A (some ⟨gw, 0, none⟩)) (h2 : Apart A (some ⟨gx, 0, none⟩)) : ∀ q, (Value.slice A l cp).ownBlock = some q → ¬ (q = gw ∨ q = gx) := by
  intro q hq
  cases A with
  | none => cases hq
  | some p =>
    cases hq
    have e1 := h1 p _ rfl rfl
    have e2 := h2 p _ rfl rfl
    show ¬ (p.block = gw ∨ p.block = gx)
    simp only at e1 e2
    omega
theorem row_room {w : World} {B : Nat} {e : TypeId} {k : Nat} {A : Addr} {l cp n : Nat} {xs : List Value} (h : w.ownsRow B e k (.slice (some A) l cp) n xs) : n ≤ cp ∧ cp ≤ 9223372036854775807 := by
  rcases h.2 with ⟨h2, -⟩ | ⟨g, cap, cur, hv, -, -, h5, h6, -⟩
  · cases h2
  · simp only [Value.slice.injEq] at hv
    obtain ⟨-, -, rfl⟩ := hv
    unfold maxLen at h6
    exact ⟨h5, by omega⟩
theorem backW_fits (g x : List Int) : Fits (backW g x) := by
  induction g with
  | nil => intro n hn; simp [backW] at hn
  | cons a r ih =>
    intro n hn
    rw [backW, List.mem_append] at hn
    rcases hn with hn | hn
    · obtain ⟨y, -, rfl⟩ := List.mem_map.1 hn
      exact mulF_bounds a y
    · exact ih n hn
theorem backX_fits (m n : Nat) (w g : List Int) : Fits (backX m n w g) := by
  intro y hy
  unfold backX at hy
  obtain ⟨i, -, rfl⟩ := List.mem_map.1 hy
  exact dotF_bounds _ _
theorem wp_cutP {P : Program} {c : Code} {Q : Exit → Act → World → Prop} {K : Act → World → Prop} {a : Act} {w : World} {ι : Type} (H : ι → Prop) (f : ι → Act → Act) (w₀ : ι → World)
    (h : c.wp P (CutP H f w₀ a) a w) (hk : ∀ x, H x → K (f x a) (w₀ x)) : c.wp P (Exit.then K Q) a w :=
  Code.wp_mono (by rintro e a' w' ⟨x, hx, rfl, rfl, rfl⟩; exact hk x hx) h

set_option maxRecDepth 100000 in
set_option maxHeartbeats 8000000 in
theorem dback_ok (W B x G : TV) (w : World) (hW : W.At w) (hB : B.At w) (hx : x.At w) (hG : G.At w) (hWc : W.Cap) (hF : fitT W.ss W.cl B.ss B.cl x.ss x.cl = true) (hO : outT (W.ss.getD 0 0) G.ss G.cl = true) (hW1 : W.cl ≤ 1000) (hB1 : B.cl ≤ 1000) (hx1 : x.cl ≤ 1000) :
    Calls Try.prog 15 #[.agg #[.slice W.sa W.sl W.sc, .slice W.ca W.cl W.cc], .agg #[.slice B.sa B.sl B.sc, .slice B.ca B.cl B.cc], .agg #[.slice x.sa x.sl x.sc, .slice x.ca x.cl x.cc], .agg #[.slice G.sa G.sl G.sc, .slice G.ca G.cl G.cc]] w (OkD w W.ss (backW G.cs x.cs) G.ss G.cs x.ss (backX B.cl x.cl W.cs G.cs)) := by
  obtain ⟨p1, p2, p3, p4, p5, p6, p7, p8, p9, p10, p11⟩ := fitT_facts hF
  have hWs : W.sl = 2 := by have := hW.1.1; rw [p1] at this; simpa using this.symm
  have hG0 : G.ss = [(B.cl : Int)] ∧ G.cl = B.cl := by
    unfold outT at hO
    rw [Bool.and_eq_true] at hO
    rw [p1] at hO
    have e := sameL_eq hO.2
    simp at e
    have := (rightT_parts hO.1).2
    rw [e, prodI_one] at this
    exact ⟨e, by omega⟩
  obtain ⟨q1, q2⟩ := hG0
  have hGs : G.sl = 1 := by have := hG.1.1; rw [q1] at this; simpa using this.symm
  have hxs4 : x.sl ≤ 4 := by have := (rightS_parts (rightT_parts p10).1).2.1; have := hx.1.1; omega
  obtain ⟨b, off, hba, hc0, hc1⟩ : ∃ b off, W.sa = some ⟨b, off, none⟩ ∧ w.cell? ⟨b, off, none⟩ = some (.int .i64 B.cl) ∧ w.cell? ⟨b, off + 1, none⟩ = some (.int .i64 x.cl) := by
    rcases hW.1.2.2.2 with h4 | ⟨b, off, ha, hc⟩
    · omega
    · rw [p1] at hc
      exact ⟨b, off, ha, by simpa using hc 0 (by omega), by simpa using hc 1 (by omega)⟩
  have hW2 := hW.2.1
  obtain ⟨cb, co, hca⟩ : ∃ cb co, W.ca = some ⟨cb, co, none⟩ := by
    rcases hW2.2.2.2 with h4 | ⟨b, off, ha, hc⟩
    · have := rightT_pos p8; omega
    · exact ⟨b, off, ha⟩
  obtain ⟨xb, xf, hxa, hxc⟩ : ∃ xb xf, x.ca = some ⟨xb, xf, none⟩ ∧ ∀ j, j < x.cl → w.cell? ⟨xb, xf + j, none⟩ = some (.int .i64 (x.cs.getD j 0)) := by
    rcases hx.2.1.2.2.2 with h4 | ⟨b, off, ha, hc⟩
    · omega
    · exact ⟨b, off, ha, hc⟩
  obtain ⟨gb, gf, hga, hgc⟩ : ∃ gb gf, G.ca = some ⟨gb, gf, none⟩ ∧ ∀ j, j < B.cl → w.cell? ⟨gb, gf + j, none⟩ = some (.int .i64 (G.cs.getD j 0)) := by
    rcases hG.2.1.2.2.2 with h4 | ⟨b, off, ha, hc⟩
    · omega
    · exact ⟨b, off, ha, fun j hj => hc j (by omega)⟩
  have HX := fun w1 (hb : Below w.heap.size w w1) j (hj : j < x.cl) => cell_later hb (hxc j hj)
  have HG := fun w1 (hb : Below w.heap.size w w1) j (hj : j < B.cl) => cell_later hb (hgc j hj)
  have C := fun w1 (hb : Below w.heap.size w w1) => fit_any W B x w1 (hW.kept hb) (hB.kept hb) (hx.kept hb)
  rw [hF] at C
  have D := fun w1 (hb : Below w.heap.size w w1) => isout_any W G w1 (hW.kept hb) (hG.kept hb) (by omega)
  rw [hO] at D
  have CW := fun w1 (hb : Below w.heap.size w w1) => tcopy_any W.sa W.sl W.sc W.ss W.ca W.cl W.cc W.cs w1 (hW.1.kept hb) (by omega) (hW.2.1.kept hb) hW1
  have CG := fun w1 (hb : Below w.heap.size w w1) => tcopy_any G.sa G.sl G.sc G.ss G.ca G.cl G.cc G.cs w1 (hG.1.kept hb) (by omega) (hG.2.1.kept hb) (by omega)
  have CX := fun w1 (hb : Below w.heap.size w w1) => tcopy_any x.sa x.sl x.sc x.ss x.ca x.cl x.cc x.cs w1 (hx.1.kept hb) (by omega) (hx.2.1.kept hb) hx1
  have CO := fun w1 (hb : Below w.heap.size w w1) j (hj : j < x.cl) => column_any b off W.sc cb co (B.cl * x.cl) W.cc B.cl x.cl j W.cs w1 (cell_later hb hc0) (cell_later hb hc1) (by have := hW2.kept hb; rw [hca, p3] at this; exact this) rfl (by rw [← p3]; exact hWc.1) hWc.2 (by omega) hj
  have hX := fun w1 (hb : Below w.heap.size w w1) => hx.2.1.kept hb
  have hGI := fun w1 (hb : Below w.heap.size w w1) => hG.2.1.kept hb
  have hWf := Lib.hid hW2.2.2.1
  have hSf := Lib.hid (And.intro hW.1.2.2.1 (And.intro hG.1.2.2.1 hx.1.2.2.1))
  have hGs4 : G.sl ≤ 1000 := by omega
  have hXf := Lib.hid hx.2.1.2.2.1
  have hGf := Lib.hid hG.2.1.2.2.1
  have hWl := Lib.hid hW2.1
  have hXl := Lib.hid hx.2.1.1
  have hGl := Lib.hid hG.2.1.1
  have hWS := Lib.hid p1
  have hGS := Lib.hid q1
  rw [q2, hga] at D CG hGI
  rw [q2] at hGl
  rw [hba, hca, hWs, p3] at C CW
  rw [hba, hca, hWs, p3] at D
  rw [hxa] at C CX
  rw [p3] at hWl
  rw [hba, hca, hWs, p3, q2, hga, hxa]
  have hcc : B.cl * x.cl ≤ W.cc := by rw [← p3]; exact hWc.1
  have hmn : B.cl * x.cl ≤ 1000 := by rw [← p3]; exact hW1
  have hBl := hB.2.1
  obtain ⟨m, hm⟩ : ∃ m, B.cl = m := ⟨_, rfl⟩
  obtain ⟨n, hn⟩ : ∃ n, x.cl = n := ⟨_, rfl⟩
  rw [hm] at C D CW CG CO HG hGI hWl hGl hcc hmn hGS hWS p4 p5 hB1 ⊢
  rw [hn] at C D CW CX CO HX hX hWl hXl hcc hmn hWS p6 p7 hx1 ⊢
  have C1 := Lib.hid C
  have D1 := Lib.hid D
  have CO1 := Lib.hid CO
  have hX1 := Lib.hid hX
  have hG1 := Lib.hid hGI
  have CW1 := Lib.hid CW
  have CG1 := Lib.hid CG
  have CX1 := Lib.hid CX
  have HX1 := Lib.hid HX
  have HG1 := Lib.hid HG
  clear HX HG hxa hxc hga hgc CW CG CX hm hn hW hB hx hG hWc hF hO p1 p2 p3 p8 p9 p10 p11 q1 q2 hGs hWs hba hc0 hc1 hW2 hca C D CO hX hGI hW1 hBl
  obtain ⟨wA, hwA, J1, z1, n1⟩ := grid_box w (.slice (some ⟨b, off, none⟩) 2 W.sc) (.slice (some ⟨cb, co, none⟩) (m * n) W.cc)
  obtain ⟨wB, hwB, J2, z2, n2⟩ := grid_box wA (.slice B.sa B.sl B.sc) (.slice B.ca m B.cc)
  obtain ⟨wC, hwC, J3, z3, n3⟩ := grid_box wB (.slice x.sa x.sl x.sc) (.slice (some ⟨xb, xf, none⟩) n x.cc)
  obtain ⟨wD, hwD, J4, z4, n4⟩ := grid_box wC (.slice G.sa G.sl G.sc) (.slice (some ⟨gb, gf, none⟩) m G.cc)
  obtain ⟨wR, hwR, J5, z5, n5⟩ := grads_box wD (.slice none 0 0) (.slice none 0 0) (.slice none 0 0) (.slice none 0 0) (.slice none 0 0) (.slice none 0 0)
  rw [n1.out] at J2
  rw [n2.out, n1.out] at J3
  rw [n3.out, n2.out, n1.out] at J4
  rw [n4.out, n3.out, n2.out, n1.out] at J5
  have z12 := z1.out.trans (z2.out.mono z1.out.size)
  have z13 := z12.trans (z3.out.mono z12.size)
  have z14 := z13.trans (z4.out.mono z13.size)
  have z := Lib.hid (z14.trans (z5.out.mono z14.size))
  have J1' := Lib.hid ((((J1.out.kept z2.out).kept z3.out).kept z4.out).kept z5.out)
  have J2' := Lib.hid (((J2.out.kept z3.out).kept z4.out).kept z5.out)
  have J3' := Lib.hid ((J3.out.kept z4.out).kept z5.out)
  have J4' := Lib.hid (J4.out.kept z5.out)
  have nR : Hid (wR.heap.size = w.heap.size + 5) := Lib.hid (by rw [n5.out, n4.out, n3.out, n2.out, n1.out])
  clear z12 z13 z14 J1 J2 J3 J4 z1 z2 z3 z4 z5 n1 n2 n3 n4 n5
  obtain ⟨j0, j1, -, -⟩ := (J1'.out).see
  obtain ⟨i0, i1, -, -⟩ := (J2'.out).see
  obtain ⟨k0, k1, -, -⟩ := (J3'.out).see
  obtain ⟨l0, l1, -, -⟩ := (J4'.out).see
  go_enter Try.func15, Try.ntmps15
  go_upto_region 1 with (fail)
  rw [hwA.out, hwB.out, hwC.out, hwD.out, hwR.out]
  go_wp2_with fail
  refine (C1.out wR z.out).mono ?_
  rintro e w1 ⟨rfl, hb1⟩
  clear j0 j1 i0 i1 k0 k1 l0 l1 C1
  obtain ⟨j0, j1, -, -⟩ := (J1'.out.kept hb1).see
  obtain ⟨i0, i1, -, -⟩ := (J2'.out.kept hb1).see
  obtain ⟨k0, k1, -, -⟩ := (J3'.out.kept hb1).see
  obtain ⟨l0, l1, -, -⟩ := (J4'.out.kept hb1).see
  go_wp2_with fail
  refine (D1.out w1 (z.out.trans (hb1.mono z.out.size))).mono ?_
  rintro e w2 ⟨rfl, hb2⟩
  have hb12 := Lib.hid (hb1.trans (hb2.mono hb1.size))
  have zz2 := Lib.hid (z.out.trans (hb12.out.mono z.out.size))
  clear j0 j1 i0 i1 k0 k1 l0 l1 D1 hb1 hb2
  have K1 := Lib.hid (J1'.out.kept hb12.out)
  have K3 := Lib.hid (J3'.out.kept hb12.out)
  have K4 := Lib.hid (J4'.out.kept hb12.out)
  have CW := Lib.hid (fun w' (hb : Below w2.heap.size w2 w') => CW1.out w' (zz2.out.trans (hb.mono zz2.out.size)))
  have CG := Lib.hid (fun w' (hb : Below w2.heap.size w2 w') => CG1.out w' (zz2.out.trans (hb.mono zz2.out.size)))
  have CX := Lib.hid (fun w' (hb : Below w2.heap.size w2 w') => CX1.out w' (zz2.out.trans (hb.mono zz2.out.size)))
  go_upto_region 3 with (fail)
  have SK := Lib.hid (fun w' (hb : Below w2.heap.size w2 w') => (show w'.cell? ⟨w.heap.size, 0, none⟩ = some (.slice (some ⟨b, off, none⟩) 2 W.sc) ∧ w'.cell? ⟨w.heap.size, 1, none⟩ = some (.slice (some ⟨cb, co, none⟩) (m * n) W.cc) ∧ w'.cell? ⟨w.heap.size + 1 + 1 + 1, 0, none⟩ = some (.slice G.sa G.sl G.sc) ∧ w'.cell? ⟨w.heap.size + 1 + 1 + 1, 1, none⟩ = some (.slice (some ⟨gb, gf, none⟩) m G.cc) ∧ w'.cell? ⟨w.heap.size + 1 + 1, 0, none⟩ = some (.slice x.sa x.sl x.sc) ∧ w'.cell? ⟨w.heap.size + 1 + 1, 1, none⟩ = some (.slice (some ⟨xb, xf, none⟩) n x.cc) from ⟨(K1.out.kept hb).see.1, (K1.out.kept hb).see.2.1, (K4.out.kept hb).see.1, (K4.out.kept hb).see.2.1, (K3.out.kept hb).see.1, (K3.out.kept hb).see.2.1⟩))
  have t1 := Lib.hid (show Below w2.heap.size w2 w2.drew from (Below.refl _ _).drew)
  refine wp_cutP (ι := GQ) (GP w2 W.ss W.cs G.sl G.ss G.cs x.sl x.ss x.cs m n) (fun q a => ((((((((a.put (some 29) (.agg #[.slice (some ⟨b, off, none⟩) 2 W.sc, .slice (some ⟨cb, co, none⟩) (m * n) W.cc])).put (some 30) (.agg #[.slice q.A1 2 q.c1, .slice q.A1p (m * n) q.c1p])).put (some 31) (.agg #[.slice G.sa G.sl G.sc, .slice (some ⟨gb, gf, none⟩) m G.cc])).put (some 32) (.agg #[.slice q.A2 G.sl q.c2, .slice q.A2p m q.c2p])).put (some 33) (.agg #[.slice x.sa x.sl x.sc, .slice (some ⟨xb, xf, none⟩) n x.cc])).put (some 34) (.agg #[.slice q.A3 x.sl q.c3, .slice q.A3p n q.c3p])).put (some 35) (.agg #[.slice q.A1 2 q.c1, .slice q.A1p (m * n) q.c1p, .slice q.A2 G.sl q.c2, .slice q.A2p m q.c2p, .slice q.A3 x.sl q.c3, .slice q.A3p n q.c3p])).put (some 10) (.pointer (some ⟨q.D, 0, none⟩)))) (fun q => q.W) ?_ ?_
  · refine wp_region_held_drew (S := fun w' => w'.cell? ⟨w.heap.size, 0, none⟩ = some (.slice (some ⟨b, off, none⟩) 2 W.sc) ∧ w'.cell? ⟨w.heap.size, 1, none⟩ = some (.slice (some ⟨cb, co, none⟩) (m * n) W.cc) ∧ w'.cell? ⟨w.heap.size + 1 + 1 + 1, 0, none⟩ = some (.slice G.sa G.sl G.sc) ∧ w'.cell? ⟨w.heap.size + 1 + 1 + 1, 1, none⟩ = some (.slice (some ⟨gb, gf, none⟩) m G.cc) ∧ w'.cell? ⟨w.heap.size + 1 + 1, 0, none⟩ = some (.slice x.sa x.sl x.sc) ∧ w'.cell? ⟨w.heap.size + 1 + 1, 1, none⟩ = some (.slice (some ⟨xb, xf, none⟩) n x.cc)) (by kernel_rfl) (SK.out _ t1.out) (fun hHeld => ?_)
    refine held_take 0 (.agg #[.slice (some ⟨b, off, none⟩) 2 W.sc, .slice (some ⟨cb, co, none⟩) (m * n) W.cc]) rfl (by kernel_rfl) (by kernel_rfl) (by kernel_rfl) (fun _ _ _ h => by obtain ⟨_, _, h, _⟩ := h; cases h) (by rfl) (by intro w' hS; go_simp) (by assumption) ?_
    try simp only [Act.put, List.setIfInBounds_toArray, List.set_cons_zero, List.set_cons_succ]
    refine held_take 2 (.agg #[.slice G.sa G.sl G.sc, .slice (some ⟨gb, gf, none⟩) m G.cc]) rfl (by kernel_rfl) (by kernel_rfl) (by kernel_rfl) (fun _ _ _ h => by obtain ⟨_, _, h, _⟩ := h; cases h) (by rfl) (by intro w' hS; go_simp) (by assumption) ?_
    try simp only [Act.put, List.setIfInBounds_toArray, List.set_cons_zero, List.set_cons_succ]
    refine held_take 4 (.agg #[.slice x.sa x.sl x.sc, .slice (some ⟨xb, xf, none⟩) n x.cc]) rfl (by kernel_rfl) (by kernel_rfl) (by kernel_rfl) (fun _ _ _ h => by obtain ⟨_, _, h, _⟩ := h; cases h) (by rfl) (by intro w' hS; go_simp) (by assumption) ?_
    try simp only [Act.put, List.setIfInBounds_toArray, List.set_cons_zero, List.set_cons_succ]
    refine held_two 1 7 (by kernel_rfl) rfl rfl (by rfl) (by rfl) (fun K hK => ?_) (fun K hK => ?_)
    · go_simp
      refine (CW.out w2.drew t1.out).mono ?_
      rintro e v1 ⟨v', rfl, A1, c1, A1p, c1p, rfl, o1, o1p, ne1, hb⟩
      have bv1 := Lib.hid (t1.out.trans (hb.mono t1.out.size))
      have hb1 := Lib.hid hb
      replace o1 := Lib.hid o1
      replace o1p := Lib.hid o1p
      replace ne1 := Lib.hid ne1
      clear hb
      go_wp2_with fail
      refine hK.out _ _ (SK.out _ bv1.out) (fun hHeld => ?_)
      try simp only [Act.put, List.setIfInBounds_toArray, List.set_cons_zero, List.set_cons_succ]
      refine held_two 3 7 (by kernel_rfl) rfl rfl (by rfl) (by rfl) (fun K hK => ?_) (fun K hK => ?_)
      · go_simp
        refine (CG.out v1 bv1.out).mono ?_
        rintro e v2 ⟨v', rfl, A2, c2, A2p, c2p, rfl, o2, o2p, ne2, hb⟩
        have bv2 := Lib.hid (bv1.out.trans (hb.mono bv1.out.size))
        have hb2 := Lib.hid hb
        replace o2 := Lib.hid o2
        replace o2p := Lib.hid o2p
        replace ne2 := Lib.hid ne2
        clear hb
        go_wp2_with fail
        refine hK.out _ _ (SK.out _ bv2.out) (fun hHeld => ?_)
        try simp only [Act.put, List.setIfInBounds_toArray, List.set_cons_zero, List.set_cons_succ]
        refine held_two 5 7 (by kernel_rfl) rfl rfl (by rfl) (by rfl) (fun K hK => ?_) (fun K hK => ?_)
        · go_simp
          refine (CX.out v2 bv2.out).mono ?_
          rintro e v3 ⟨v', rfl, A3, c3, A3p, c3p, rfl, o3, o3p, ne3, hb⟩
          have bv3 := Lib.hid (bv2.out.trans (hb.mono bv2.out.size))
          have hb3 := Lib.hid hb
          replace o3 := Lib.hid o3
          replace o3p := Lib.hid o3p
          replace ne3 := Lib.hid ne3
          clear hb
          go_wp2_with fail
          refine hK.out _ _ (SK.out _ bv3.out) (fun hHeld => ?_)
          try simp only [Act.put, List.setIfInBounds_toArray, List.set_cons_zero, List.set_cons_succ]
          refine held_take 6 (.agg #[.slice A1 2 c1, .slice A1p (m * n) c1p, .slice A2 G.sl c2, .slice A2p m c2p, .slice A3 x.sl c3, .slice A3p n c3p]) rfl (by kernel_rfl) (by kernel_rfl) (by kernel_rfl) (fun _ _ _ h => by obtain ⟨_, _, h, _⟩ := h; cases h) (by rfl) (by intro w' hS; go_simp) (by assumption) ?_
          try simp only [Act.put, List.setIfInBounds_toArray, List.set_cons_zero, List.set_cons_succ]
          refine held_call 7 (by kernel_rfl) rfl (by rfl) (fun K hK => ?_)
          go_simp
          obtain ⟨v3a, hwN, JN, zN, nN⟩ := grads_box v3 (.slice none 0 0) (.slice none 0 0) (.slice none 0 0) (.slice none 0 0) (.slice none 0 0) (.slice none 0 0)
          rw [hwN.out]
          have bv3a := Lib.hid (bv3.out.trans (zN.out.mono bv3.out.size))
          refine hK.out _ _ (SK.out _ bv3a.out) (fun hHeld => ?_)
          try simp only [Act.put, List.setIfInBounds_toArray, List.set_cons_zero, List.set_cons_succ]
          have JD : GrAt v3a v3.heap.size (.slice none 0 0) (.slice none 0 0) (.slice none 0 0) (.slice none 0 0) (.slice none 0 0) (.slice none 0 0) := JN.out
          obtain ⟨e0, e1, e2, e3, e4, e5⟩ := JD.see
          obtain ⟨f0, f1, f2, f3, f4, f5⟩ := JD.live
          have HG : GP w2 W.ss W.cs G.sl G.ss G.cs x.sl x.ss x.cs m n ⟨v3.heap.size, A1, c1, A1p, c1p, A2, c2, A2p, c2p, A3, c3, A3p, c3p, gset v3a v3.heap.size (.slice A1 2 c1) (.slice A1p (m * n) c1p) (.slice A2 G.sl c2) (.slice A2p m c2p) (.slice A3 x.sl c3) (.slice A3p n c3p)⟩ := by
            have := t1.out.size
            have := hb1.out.size
            have := hb2.out.size
            have := hb3.out.size
            have := zN.out.size
            have := nN.out
            exact gp_make JD bv3a.out o1.out o1p.out ne1.out ((hb2.out.trans (hb3.out.mono hb2.out.size)).trans (zN.out.mono (hb2.out.trans (hb3.out.mono hb2.out.size)).size)) o2.out o2p.out ne2.out (hb3.out.trans (zN.out.mono hb3.out.size)) o3.out o3p.out ne3.out zN.out (by omega) (by omega) (by omega) (by omega) (by omega) (by omega) (by omega) (by omega) (by omega) (by omega)
          simp only [gset] at HG
          replace HG := Lib.hid HG
          have SS := SK.out _ (gset_below (a := .slice A1 2 c1) (b := .slice A1p (m * n) c1p) (c := .slice A2 G.sl c2) (d := .slice A2p m c2p) (e := .slice A3 x.sl c3) (f := .slice A3p n c3p) bv3a.out (show w2.heap.size ≤ v3.heap.size by (have := t1.out.size; have := hb1.out.size; have := hb2.out.size; have := hb3.out.size; have := zN.out.size; omega)))
          simp only [gset] at SS
          refine held_call 8 (by kernel_rfl) rfl (by rfl) (fun K hK => ?_)
          go_simp
          refine hK.out _ _ SS (fun hHeld => ?_)
          try simp only [Act.put, List.setIfInBounds_toArray, List.set_cons_zero, List.set_cons_succ]
          refine wpAnyH_done (by kernel_rfl) ?_ _
          refine ⟨_, HG.out, rfl, ?_, rfl⟩
          simp only [Act.put, List.setIfInBounds_toArray, List.set_cons_zero, List.set_cons_succ]
        · go_simp
          obtain ⟨v2a, hwN, JN, zN, nN⟩ := grads_box v2 (.slice none 0 0) (.slice none 0 0) (.slice none 0 0) (.slice none 0 0) (.slice none 0 0) (.slice none 0 0)
          rw [hwN.out]
          have bv2a := Lib.hid (bv2.out.trans (zN.out.mono bv2.out.size))
          refine hK.out _ _ (SK.out _ bv2a.out) (fun hHeld => ?_)
          try simp only [Act.put, List.setIfInBounds_toArray, List.set_cons_zero, List.set_cons_succ]
          refine held_call 5 (by kernel_rfl) rfl (by rfl) (fun K hK => ?_)
          go_simp
          refine (CX.out v2a bv2a.out).mono ?_
          rintro e v3 ⟨v', rfl, A3, c3, A3p, c3p, rfl, o3, o3p, ne3, hb⟩
          have bv3 := Lib.hid (bv2a.out.trans (hb.mono bv2a.out.size))
          have hb3 := Lib.hid hb
          replace o3 := Lib.hid o3
          replace o3p := Lib.hid o3p
          replace ne3 := Lib.hid ne3
          clear hb
          go_wp2_with fail
          refine hK.out _ _ (SK.out _ bv3.out) (fun hHeld => ?_)
          try simp only [Act.put, List.setIfInBounds_toArray, List.set_cons_zero, List.set_cons_succ]
          refine held_take 6 (.agg #[.slice A1 2 c1, .slice A1p (m * n) c1p, .slice A2 G.sl c2, .slice A2p m c2p, .slice A3 x.sl c3, .slice A3p n c3p]) rfl (by kernel_rfl) (by kernel_rfl) (by kernel_rfl) (fun _ _ _ h => by obtain ⟨_, _, h, _⟩ := h; cases h) (by rfl) (by intro w' hS; go_simp) (by assumption) ?_
          try simp only [Act.put, List.setIfInBounds_toArray, List.set_cons_zero, List.set_cons_succ]
          have JD : GrAt v3 v2.heap.size (.slice none 0 0) (.slice none 0 0) (.slice none 0 0) (.slice none 0 0) (.slice none 0 0) (.slice none 0 0) := (JN.out.kept hb3.out)
          obtain ⟨e0, e1, e2, e3, e4, e5⟩ := JD.see
          obtain ⟨f0, f1, f2, f3, f4, f5⟩ := JD.live
          have HG : GP w2 W.ss W.cs G.sl G.ss G.cs x.sl x.ss x.cs m n ⟨v2.heap.size, A1, c1, A1p, c1p, A2, c2, A2p, c2p, A3, c3, A3p, c3p, gset v3 v2.heap.size (.slice A1 2 c1) (.slice A1p (m * n) c1p) (.slice A2 G.sl c2) (.slice A2p m c2p) (.slice A3 x.sl c3) (.slice A3p n c3p)⟩ := by
            have := t1.out.size
            have := hb1.out.size
            have := hb2.out.size
            have := zN.out.size
            have := hb3.out.size
            have := nN.out
            exact gp_make JD bv3.out o1.out o1p.out ne1.out ((hb2.out.trans (zN.out.mono hb2.out.size)).trans (hb3.out.mono (hb2.out.trans (zN.out.mono hb2.out.size)).size)) o2.out o2p.out ne2.out (zN.out.trans (hb3.out.mono zN.out.size)) o3.out o3p.out ne3.out (Below.refl _ _) (by omega) (by omega) (by omega) (by omega) (by omega) (by omega) (by omega) (by omega) (by omega) (by omega)
          simp only [gset] at HG
          replace HG := Lib.hid HG
          have SS := SK.out _ (gset_below (a := .slice A1 2 c1) (b := .slice A1p (m * n) c1p) (c := .slice A2 G.sl c2) (d := .slice A2p m c2p) (e := .slice A3 x.sl c3) (f := .slice A3p n c3p) bv3.out (show w2.heap.size ≤ v2.heap.size by (have := t1.out.size; have := hb1.out.size; have := hb2.out.size; have := zN.out.size; have := hb3.out.size; omega)))
          simp only [gset] at SS
          refine held_call 8 (by kernel_rfl) rfl (by rfl) (fun K hK => ?_)
          go_simp
          refine hK.out _ _ SS (fun hHeld => ?_)
          try simp only [Act.put, List.setIfInBounds_toArray, List.set_cons_zero, List.set_cons_succ]
          refine wpAnyH_done (by kernel_rfl) ?_ _
          refine ⟨_, HG.out, rfl, ?_, rfl⟩
          simp only [Act.put, List.setIfInBounds_toArray, List.set_cons_zero, List.set_cons_succ]
      · go_simp
        obtain ⟨v1a, hwN, JN, zN, nN⟩ := grads_box v1 (.slice none 0 0) (.slice none 0 0) (.slice none 0 0) (.slice none 0 0) (.slice none 0 0) (.slice none 0 0)
        rw [hwN.out]
        have bv1a := Lib.hid (bv1.out.trans (zN.out.mono bv1.out.size))
        refine hK.out _ _ (SK.out _ bv1a.out) (fun hHeld => ?_)
        try simp only [Act.put, List.setIfInBounds_toArray, List.set_cons_zero, List.set_cons_succ]
        refine held_call 3 (by kernel_rfl) rfl (by rfl) (fun K hK => ?_)
        go_simp
        refine (CG.out v1a bv1a.out).mono ?_
        rintro e v2 ⟨v', rfl, A2, c2, A2p, c2p, rfl, o2, o2p, ne2, hb⟩
        have bv2 := Lib.hid (bv1a.out.trans (hb.mono bv1a.out.size))
        have hb2 := Lib.hid hb
        replace o2 := Lib.hid o2
        replace o2p := Lib.hid o2p
        replace ne2 := Lib.hid ne2
        clear hb
        go_wp2_with fail
        refine hK.out _ _ (SK.out _ bv2.out) (fun hHeld => ?_)
        try simp only [Act.put, List.setIfInBounds_toArray, List.set_cons_zero, List.set_cons_succ]
        refine held_call 5 (by kernel_rfl) rfl (by rfl) (fun K hK => ?_)
        go_simp
        refine (CX.out v2 bv2.out).mono ?_
        rintro e v3 ⟨v', rfl, A3, c3, A3p, c3p, rfl, o3, o3p, ne3, hb⟩
        have bv3 := Lib.hid (bv2.out.trans (hb.mono bv2.out.size))
        have hb3 := Lib.hid hb
        replace o3 := Lib.hid o3
        replace o3p := Lib.hid o3p
        replace ne3 := Lib.hid ne3
        clear hb
        go_wp2_with fail
        refine hK.out _ _ (SK.out _ bv3.out) (fun hHeld => ?_)
        try simp only [Act.put, List.setIfInBounds_toArray, List.set_cons_zero, List.set_cons_succ]
        refine held_take 6 (.agg #[.slice A1 2 c1, .slice A1p (m * n) c1p, .slice A2 G.sl c2, .slice A2p m c2p, .slice A3 x.sl c3, .slice A3p n c3p]) rfl (by kernel_rfl) (by kernel_rfl) (by kernel_rfl) (fun _ _ _ h => by obtain ⟨_, _, h, _⟩ := h; cases h) (by rfl) (by intro w' hS; go_simp) (by assumption) ?_
        try simp only [Act.put, List.setIfInBounds_toArray, List.set_cons_zero, List.set_cons_succ]
        have JD : GrAt v3 v1.heap.size (.slice none 0 0) (.slice none 0 0) (.slice none 0 0) (.slice none 0 0) (.slice none 0 0) (.slice none 0 0) := ((JN.out.kept hb2.out).kept hb3.out)
        obtain ⟨e0, e1, e2, e3, e4, e5⟩ := JD.see
        obtain ⟨f0, f1, f2, f3, f4, f5⟩ := JD.live
        have HG : GP w2 W.ss W.cs G.sl G.ss G.cs x.sl x.ss x.cs m n ⟨v1.heap.size, A1, c1, A1p, c1p, A2, c2, A2p, c2p, A3, c3, A3p, c3p, gset v3 v1.heap.size (.slice A1 2 c1) (.slice A1p (m * n) c1p) (.slice A2 G.sl c2) (.slice A2p m c2p) (.slice A3 x.sl c3) (.slice A3p n c3p)⟩ := by
          have := t1.out.size
          have := hb1.out.size
          have := zN.out.size
          have := hb2.out.size
          have := hb3.out.size
          have := nN.out
          exact gp_make JD bv3.out o1.out o1p.out ne1.out ((zN.out.trans (hb2.out.mono zN.out.size)).trans (hb3.out.mono (zN.out.trans (hb2.out.mono zN.out.size)).size)) o2.out o2p.out ne2.out hb3.out o3.out o3p.out ne3.out (Below.refl _ _) (by omega) (by omega) (by omega) (by omega) (by omega) (by omega) (by omega) (by omega) (by omega) (by omega)
        simp only [gset] at HG
        replace HG := Lib.hid HG
        have SS := SK.out _ (gset_below (a := .slice A1 2 c1) (b := .slice A1p (m * n) c1p) (c := .slice A2 G.sl c2) (d := .slice A2p m c2p) (e := .slice A3 x.sl c3) (f := .slice A3p n c3p) bv3.out (show w2.heap.size ≤ v1.heap.size by (have := t1.out.size; have := hb1.out.size; have := zN.out.size; have := hb2.out.size; have := hb3.out.size; omega)))
        simp only [gset] at SS
        refine held_call 8 (by kernel_rfl) rfl (by rfl) (fun K hK => ?_)
        go_simp
        refine hK.out _ _ SS (fun hHeld => ?_)
        try simp only [Act.put, List.setIfInBounds_toArray, List.set_cons_zero, List.set_cons_succ]
        refine wpAnyH_done (by kernel_rfl) ?_ _
        refine ⟨_, HG.out, rfl, ?_, rfl⟩
        simp only [Act.put, List.setIfInBounds_toArray, List.set_cons_zero, List.set_cons_succ]
    · go_simp
      obtain ⟨wN0, hwN, JN0, zN0, nN0⟩ := grads_box w2 (.slice none 0 0) (.slice none 0 0) (.slice none 0 0) (.slice none 0 0) (.slice none 0 0) (.slice none 0 0)
      rw [hwN.out]
      obtain ⟨v0a, hv⟩ : ∃ v, wN0.drew = v := ⟨_, rfl⟩
      have JN : Hid (GrAt v0a w2.heap.size (.slice none 0 0) (.slice none 0 0) (.slice none 0 0) (.slice none 0 0) (.slice none 0 0) (.slice none 0 0)) := Lib.hid (by rw [← hv]; exact JN0.out)
      have zN : Hid (Below w2.heap.size w2 v0a) := Lib.hid (by rw [← hv]; exact zN0.out.drew)
      have nN : Hid ((v0a).heap.size = w2.heap.size + 1) := Lib.hid (by rw [← hv]; exact nN0.out)
      have bv0a := zN
      rw [hv]
      clear hv
      refine hK.out _ _ (SK.out _ bv0a.out) (fun hHeld => ?_)
      try simp only [Act.put, List.setIfInBounds_toArray, List.set_cons_zero, List.set_cons_succ]
      refine held_call 1 (by kernel_rfl) rfl (by rfl) (fun K hK => ?_)
      go_simp
      refine (CW.out v0a bv0a.out).mono ?_
      rintro e v1 ⟨v', rfl, A1, c1, A1p, c1p, rfl, o1, o1p, ne1, hb⟩
      have bv1 := Lib.hid (bv0a.out.trans (hb.mono bv0a.out.size))
      have hb1 := Lib.hid hb
      replace o1 := Lib.hid o1
      replace o1p := Lib.hid o1p
      replace ne1 := Lib.hid ne1
      clear hb
      go_wp2_with fail
      refine hK.out _ _ (SK.out _ bv1.out) (fun hHeld => ?_)
      try simp only [Act.put, List.setIfInBounds_toArray, List.set_cons_zero, List.set_cons_succ]
      refine held_call 3 (by kernel_rfl) rfl (by rfl) (fun K hK => ?_)
      go_simp
      refine (CG.out v1 bv1.out).mono ?_
      rintro e v2 ⟨v', rfl, A2, c2, A2p, c2p, rfl, o2, o2p, ne2, hb⟩
      have bv2 := Lib.hid (bv1.out.trans (hb.mono bv1.out.size))
      have hb2 := Lib.hid hb
      replace o2 := Lib.hid o2
      replace o2p := Lib.hid o2p
      replace ne2 := Lib.hid ne2
      clear hb
      go_wp2_with fail
      refine hK.out _ _ (SK.out _ bv2.out) (fun hHeld => ?_)
      try simp only [Act.put, List.setIfInBounds_toArray, List.set_cons_zero, List.set_cons_succ]
      refine held_call 5 (by kernel_rfl) rfl (by rfl) (fun K hK => ?_)
      go_simp
      refine (CX.out v2 bv2.out).mono ?_
      rintro e v3 ⟨v', rfl, A3, c3, A3p, c3p, rfl, o3, o3p, ne3, hb⟩
      have bv3 := Lib.hid (bv2.out.trans (hb.mono bv2.out.size))
      have hb3 := Lib.hid hb
      replace o3 := Lib.hid o3
      replace o3p := Lib.hid o3p
      replace ne3 := Lib.hid ne3
      clear hb
      go_wp2_with fail
      refine hK.out _ _ (SK.out _ bv3.out) (fun hHeld => ?_)
      try simp only [Act.put, List.setIfInBounds_toArray, List.set_cons_zero, List.set_cons_succ]
      refine held_take 6 (.agg #[.slice A1 2 c1, .slice A1p (m * n) c1p, .slice A2 G.sl c2, .slice A2p m c2p, .slice A3 x.sl c3, .slice A3p n c3p]) rfl (by kernel_rfl) (by kernel_rfl) (by kernel_rfl) (fun _ _ _ h => by obtain ⟨_, _, h, _⟩ := h; cases h) (by rfl) (by intro w' hS; go_simp) (by assumption) ?_
      try simp only [Act.put, List.setIfInBounds_toArray, List.set_cons_zero, List.set_cons_succ]
      have JD : GrAt v3 w2.heap.size (.slice none 0 0) (.slice none 0 0) (.slice none 0 0) (.slice none 0 0) (.slice none 0 0) (.slice none 0 0) := (((JN.out.kept hb1.out).kept hb2.out).kept hb3.out)
      obtain ⟨e0, e1, e2, e3, e4, e5⟩ := JD.see
      obtain ⟨f0, f1, f2, f3, f4, f5⟩ := JD.live
      have HG : GP w2 W.ss W.cs G.sl G.ss G.cs x.sl x.ss x.cs m n ⟨w2.heap.size, A1, c1, A1p, c1p, A2, c2, A2p, c2p, A3, c3, A3p, c3p, gset v3 w2.heap.size (.slice A1 2 c1) (.slice A1p (m * n) c1p) (.slice A2 G.sl c2) (.slice A2p m c2p) (.slice A3 x.sl c3) (.slice A3p n c3p)⟩ := by
        have := t1.out.size
        have := zN.out.size
        have := hb1.out.size
        have := hb2.out.size
        have := hb3.out.size
        have := nN.out
        exact gp_make JD bv3.out o1.out o1p.out ne1.out (hb2.out.trans (hb3.out.mono hb2.out.size)) o2.out o2p.out ne2.out hb3.out o3.out o3p.out ne3.out (Below.refl _ _) (by omega) (by omega) (by omega) (by omega) (by omega) (by omega) (by omega) (by omega) (by omega) (by omega)
      simp only [gset] at HG
      replace HG := Lib.hid HG
      have SS := SK.out _ (gset_below (a := .slice A1 2 c1) (b := .slice A1p (m * n) c1p) (c := .slice A2 G.sl c2) (d := .slice A2p m c2p) (e := .slice A3 x.sl c3) (f := .slice A3p n c3p) bv3.out (show w2.heap.size ≤ w2.heap.size by (have := t1.out.size; have := zN.out.size; have := hb1.out.size; have := hb2.out.size; have := hb3.out.size; omega)))
      simp only [gset] at SS
      refine held_call 8 (by kernel_rfl) rfl (by rfl) (fun K hK => ?_)
      go_simp
      refine hK.out _ _ SS (fun hHeld => ?_)
      try simp only [Act.put, List.setIfInBounds_toArray, List.set_cons_zero, List.set_cons_succ]
      refine wpAnyH_done (by kernel_rfl) ?_ _
      refine ⟨_, HG.out, rfl, ?_, rfl⟩
      simp only [Act.put, List.setIfInBounds_toArray, List.set_cons_zero, List.set_cons_succ]
  rintro ⟨D, A1, c1, A1p, c1p, A2, c2, A2p, c2p, A3, c3, A3p, c3p, wE⟩ hq
  have HQ := Lib.hid hq
  clear hq
  simp only [Act.put, List.setIfInBounds_toArray, List.set_cons_zero, List.set_cons_succ]
  obtain ⟨JD, ⟨o1, o1p⟩, ⟨o2, o2p⟩, ⟨o3, o3p⟩, ⟨x1, x2, x3, x4, x5⟩, ⟨y1, y2, y3, y4⟩, ⟨f1, f2⟩, hbE, hD⟩ := HQ.out
  dsimp only at JD o1 o1p o2 o2p o3 o3p x1 x2 x3 x4 x5 y1 y2 y3 y4 f1 f2 hbE hD
  have hmn1 : 0 < m * n := Nat.mul_pos (by omega) (by omega)
  obtain ⟨a1, c1', hv1⟩ := Joins.ownsRow_form o1 (by omega)
  obtain ⟨gw, c2', hv2⟩ := Joins.ownsRow_form o1p hmn1
  obtain ⟨gx, c3', hv3⟩ := Joins.ownsRow_form o3p (by omega)
  simp only [Value.slice.injEq] at hv1 hv2 hv3
  obtain ⟨rfl, -, rfl⟩ := hv1
  obtain ⟨rfl, -, rfl⟩ := hv2
  obtain ⟨rfl, -, rfl⟩ := hv3
  have ha1w : a1 ≠ gw := x1 _ _ rfl rfl
  have ha1x : a1 ≠ gx := y1 _ _ rfl rfl
  have hgwx : gw ≠ gx := fun e => x5 _ _ rfl rfl e.symm
  have hDw : gw ≠ D := f1 _ rfl
  have hDx : gx ≠ D := f2 _ rfl
  have lw : w2.heap.size ≤ gw := (row_range o1p _ rfl).1
  have lx : w2.heap.size ≤ gx := (row_range o3p _ rfl).1
  have rm1 := row_room o1p
  have z2s := hb12.out.size
  have hnR : wR.heap.size = w.heap.size + 5 := nR.out
  have hw2R : w.heap.size + 5 ≤ w2.heap.size := by omega
  have q1 : wE.cell? ⟨a1, 1, none⟩ = some (.int .i64 n) := by
    have e : wE.cell? ⟨a1, 1, none⟩ = (W.ss.map (Value.int .i64))[1]? := o1.cellAt 1 (by omega)
    rw [hWS.out] at e
    simpa using e
  have q1' := Lib.hid q1
  have JD' := Lib.hid JD
  have zE := Lib.hid (zz2.out.trans (hbE.mono zz2.out.size))
  have K1' := Lib.hid (K1.out.kept hbE)
  have K3' := Lib.hid (K3.out.kept hbE)
  have K4' := Lib.hid (K4.out.kept hbE)
  have J5' := Lib.hid ((J5.out.kept hb12.out).kept hbE)
  have BW := Lib.hid (fun w' (hs : Save (fun k => k = gw ∨ k = gx) wE w') => hs.below zE.out zE.out.size (fun k hk => by rcases hk with rfl | rfl <;> omega))
  have S2 := Lib.hid (fun w' (hs : Save (fun k => k = gw ∨ k = gx) wE w') => (show
      w'.cell? ⟨w.heap.size, 0, none⟩ = some (.slice (some ⟨b, off, none⟩) 2 W.sc) ∧ w'.cell? ⟨w.heap.size, 1, none⟩ = some (.slice (some ⟨cb, co, none⟩) (m * n) W.cc) ∧ w'.cell? ⟨w.heap.size + 1 + 1, 1, none⟩ = some (.slice (some ⟨xb, xf, none⟩) n x.cc) ∧ w'.cell? ⟨w.heap.size + 1 + 1 + 1, 1, none⟩ = some (.slice (some ⟨gb, gf, none⟩) m G.cc) ∧
      w'.cell? ⟨a1, 1, none⟩ = some (.int .i64 n) ∧ w'.cell? ⟨D, 5, none⟩ = some (.slice (some ⟨gx, 0, none⟩) n c3p) ∧ w'.cell? ⟨D, 0, none⟩ = some (.slice (some ⟨a1, 0, none⟩) 2 c1) ∧ w'.cell? ⟨D, 1, none⟩ = some (.slice (some ⟨gw, 0, none⟩) (m * n) c1p) from
      ⟨(hs.gat K1'.out (by omega)).see.1, (hs.gat K1'.out (by omega)).see.2.1, (hs.gat K3'.out (by omega)).see.2.1, (hs.gat K4'.out (by omega)).see.2.1, hs.cell q1'.out (by show ¬(a1 = gw ∨ a1 = gx); omega),
       (JD'.out.saved hs (by omega)).see.2.2.2.2.2, (JD'.out.saved hs (by omega)).see.1, (JD'.out.saved hs (by omega)).see.2.1⟩))
  have RO := Lib.hid (fun w' (hs : Save (fun k => k = gw ∨ k = gx) wE w') k (hk : k < m) => (by
    have := row_any a1 0 c1 gw 0 (m * n) c1p m n k w' (by rw [Nat.zero_add]; exact (S2.out w' hs).2.2.2.2.1) rfl rm1.1 rm1.2 (by omega) hk p6
    rw [Nat.zero_add] at this
    exact this : Calls Try.prog 30 #[.agg #[.slice (some ⟨a1, 0, none⟩) 2 c1, .slice (some ⟨gw, 0, none⟩) (m * n) c1p], .int .i64 k] w' fun e v => e = .returned (.slice (some ⟨gw, k * n, none⟩) n (c1p - k * n)) ∧ Below w'.heap.size w' v))
  have CO2 := Lib.hid (fun w' (hs : Save (fun k => k = gw ∨ k = gx) wE w') j (hj : j < n) => CO1.out w' (BW.out w' hs) j hj)
  have GI := Lib.hid (fun w' (hs : Save (fun k => k = gw ∨ k = gx) wE w') => hG1.out w' (BW.out w' hs))
  have GC := Lib.hid (fun w' (hs : Save (fun k => k = gw ∨ k = gx) wE w') j (hj : j < m) => HG1.out w' (BW.out w' hs) j hj)
  have XC := Lib.hid (fun w' (hs : Save (fun k => k = gw ∨ k = gx) wE w') j (hj : j < n) => HX1.out w' (BW.out w' hs) j hj)
  obtain ⟨xw, hxw⟩ : ∃ xw, backW G.cs x.cs = xw := ⟨_, rfl⟩
  have hxwl : Hid (xw.length = m * n) := Lib.hid (by rw [← hxw, backW_length, hGl.out, hXl.out])
  have XW := Lib.hid (fun k (hk : k < m) j (hj : j < n) => (by
    rw [← hxw]
    have := backW_get (g := G.cs) (x := x.cs) (i := k) (j := j) (by rw [hGl.out]; exact hk) (by rw [hXl.out]; exact hj)
    rw [hXl.out] at this
    exact this : xw.getD (k * n + j) 0 = mulF (G.cs.getD k 0) (x.cs.getD j 0)))
  obtain ⟨xx, hxx⟩ : ∃ xx, backX m n W.cs G.cs = xx := ⟨_, rfl⟩
  have hxxl : Hid (xx.length = n) := Lib.hid (by rw [← hxx, backX_length])
  have XX := Lib.hid (fun j (hj : j < n) => (by rw [← hxx]; exact backX_get hj : xx.getD j 0 = dotF (colD W.cs n m j) G.cs))
  have fxw := Lib.hid (show Fits xw by rw [← hxw]; exact backW_fits _ _)
  have fxx := Lib.hid (show Fits xx by rw [← hxx]; exact backX_fits _ _ _ _)
  have r1 := Lib.hid o1
  have r2 := Lib.hid o2
  have r2p := Lib.hid o2p
  have r3 := Lib.hid o3
  have rw0 := Lib.hid (show wE.ownsRow w2.heap.size 47 1 (.slice (some ⟨gw, 0, none⟩) (m * n) c1p) (m * n) ((mixR xw W.cs (0 * n)).map (Value.int .i64)) by rw [Nat.zero_mul, mixR_zero]; exact o1p)
  have rx0 := Lib.hid (show wE.ownsRow w2.heap.size 47 1 (.slice (some ⟨gx, 0, none⟩) n c3p) n ((mixR xx x.cs 0).map (Value.int .i64)) by rw [mixR_zero]; exact o3p)
  have APT := Lib.hid (And.intro (And.intro x2 x3) (And.intro x4 (And.intro y2 (And.intro y3 y4))))
  have hwl := Lib.hid (show List.length W.cs = m * n from hWl.out)
  clear HQ JD o1 o1p o2 o2p o3 o3p x1 x2 x3 x4 x5 y1 y2 y3 y4 f1 f2 hbE q1 rm1 CW CG CX CW1 CG1 CX1 hX1 hG1 CO1 HX1 HG1 K1 K3 K4 J1' J2' J3' J4' J5 SK t1 z2s
  rename_i K1 a1K
  refine a1K _ _ ?_
  rw [hxw, hxx]
  clear hxw hxx a1K
  obtain ⟨s1, s2, s3, s4, -, -, -, -⟩ := S2.out wE (Save.refl _ _)
  go_wp2_with fail
  go_loopw [39] (fun i wr => ∃ k : Nat, k ≤ m ∧ i = .int .i64 k ∧ Hid (wr.ownsRow w2.heap.size 47 1 (.slice (some ⟨gw, 0, none⟩) (m * n) c1p) (m * n) ((mixR xw W.cs (k * n)).map (Value.int .i64))) ∧ Hid (wr.ownsRow w2.heap.size 47 1 (.slice (some ⟨gx, 0, none⟩) n c3p) n ((mixR xx x.cs 0).map (Value.int .i64))) ∧ Hid (Save (fun k => k = gw ∨ k = gx) wE wr)) (fun i _ => m - (intOf i).toNat)
  case atStart => exact ⟨0, Nat.zero_le _, rfl, rw0, rx0, Lib.hid (Save.refl _ _)⟩
  case round =>
    obtain ⟨k, hk, rfl, hrg, hrx, hbr⟩ := hrel
    clear s1 s2 s3 s4
    by_cases hltk : k < m
    · have hcy := GC.out wr hbr.out k hltk
      obtain ⟨y1, y2⟩ := hGf.out.getD k
      have XWk := XW.out k hltk
      obtain ⟨y, hy⟩ : ∃ y, G.cs.getD k 0 = y := ⟨_, rfl⟩
      rw [hy] at hcy y1 y2
      simp only [hy] at XWk
      have XWk' := Lib.hid XWk
      obtain ⟨s1, s2, s3, s4, -, -, s7, s8⟩ := S2.out wr hbr.out
      clear hy XWk
      go_wp2_with fail
      refine (RO.out wr hbr.out k hltk).mono ?_
      rintro e w3 ⟨rfl, hb3⟩
      have hbr3 := Lib.hid (hbr.out.later hb3)
      have hrg3 := Lib.hid (row_kept hrg.out hb3)
      have hrx3 := Lib.hid (row_kept hrx.out hb3)
      have hknb : k * n + n ≤ m * n := by have := Nat.mul_le_mul_right n hltk; rw [Nat.succ_mul] at this; exact this
      have hkn1 : (k + 1) * n = k * n + n := by rw [Nat.add_mul, Nat.one_mul]
      obtain ⟨kn, hkn⟩ : ∃ kn, k * n = kn := ⟨_, rfl⟩
      rw [hkn] at hknb hkn1 hrg3 XWk'
      rw [hkn]
      have HKN := Lib.hid hkn1
      clear s1 s2 s3 s4 s7 s8 hcy hb3 hkn hkn1 hrg hrx
      obtain ⟨s1, s2, s3, s4, -, -, s7, s8⟩ := S2.out w3 hbr3.out
      go_wp2_with fail
      clear s1 s2 s3 s4 s7 s8
      go_loopw [51] (fun i wr2 => ∃ j : Nat, j ≤ n ∧ i = .int .i64 j ∧ Hid (wr2.ownsRow w2.heap.size 47 1 (.slice (some ⟨gw, 0, none⟩) (m * n) c1p) (m * n) ((mixR xw W.cs (kn + j)).map (Value.int .i64))) ∧ Hid (wr2.ownsRow w2.heap.size 47 1 (.slice (some ⟨gx, 0, none⟩) n c3p) n ((mixR xx x.cs 0).map (Value.int .i64))) ∧ Hid (Save (fun k => k = gw ∨ k = gx) wE wr2)) (fun i _ => n - (intOf i).toNat)
      case atStart => exact ⟨0, Nat.zero_le _, rfl, hrg3, hrx3, hbr3⟩
      case round =>
        clear hbr3 hrg3 hrx3
        obtain ⟨j, hj, rfl, hrg2, hrx2, hbr2⟩ := hrel
        by_cases hltj : j < n
        · have hcz := XC.out _ hbr2.out j hltj
          have hs := XWk'.out j hltj
          obtain ⟨z1, z2⟩ := hXf.out.getD j
          obtain ⟨zv, hz⟩ : ∃ zv, x.cs.getD j 0 = zv := ⟨_, rfl⟩
          rw [hz] at hcz hs z1 z2
          have MM := fun w => mul_any y zv w y1 y2 z1 z2
          obtain ⟨s, hss⟩ : ∃ s, mulF y zv = s := ⟨_, rfl⟩
          rw [hss] at hs MM
          have M1 := Lib.hid MM
          have hlt : kn + j < m * n := by omega
          have hcell : World.cell? _ ⟨gw, kn + j, none⟩ = ((mixR xw W.cs (kn + j)).map (Value.int .i64))[kn + j]? := hrg2.out.cellAt (kn + j) (by omega)
          rw [List.getElem?_map, mixR_get (by rw [hxwl.out, hwl.out]) (by rw [hwl.out]; exact hlt)] at hcell
          simp only [Option.map_some] at hcell
          obtain ⟨u, hu⟩ : ∃ u, W.cs.getD (kn + j) 0 = u := ⟨_, rfl⟩
          rw [hu] at hcell
          have hf := hrg2.out.frozenAt (kn + j)
          obtain ⟨ho4, hg4⟩ := hrg2.out.stored (kn + j) (.int .i64 s)
          rw [← hs, ← List.map_set, mixR_set (by rw [hxwl.out, hwl.out]) (by rw [hwl.out]; exact hlt), hs] at ho4
          have ho4' := Lib.hid ho4
          have hrx4 := Lib.hid (row_apart (p := ⟨gw, kn + j, none⟩) (u := .int .i64 s) hrx2.out (by intro q hq; cases hq; exact fun e => hgwx e.symm))
          have hb4 := Lib.hid (hbr2.out.setCell (g := gw) (Or.inl rfl) (kn + j) (.int .i64 s))
          clear ho4 hg4 hs hss hz MM z1 z2 hu
          go_wp2_with fail
          refine (M1.out _).mono ?_
          rintro e wv ⟨rfl, rfl⟩
          go_wp2_with fail
          go_roundw
          case rel => exact ⟨j + 1, by omega, by go_num, ho4', hrx4, hb4⟩
          case measure => (simp [intOf]; try omega)
        · obtain rfl : j = n := by omega
          rw [← HKN.out] at hrg2
          go_wp2_with fail
          go_roundw
          case rel => exact ⟨k + 1, by omega, by go_num, hrg2, hrx2, hbr2⟩
          case measure => (simp [intOf]; try omega)
    · obtain rfl : k = m := by omega
      rw [mixR_all hxwl.out hwl.out] at hrg
      obtain ⟨-, -, -, -, -, s6, -, -⟩ := S2.out wr hbr.out
      have D2' := fun w' (hs : Save (fun k => k = gw ∨ k = gx) wE w') (j : Nat) (A : Option Addr) (cp : Nat) (hI : IntsAt w' A k (colD W.cs n k j)) => dot_any A (some ⟨gb, gf, none⟩) k cp k G.cc (colD W.cs n k j) G.cs w' hI (GI.out w' hs)
      have DD := Lib.hid D2'
      clear D2' hltk
      go_wp2_with fail
      clear s6
      go_loopw [68] (fun i wr => ∃ j : Nat, j ≤ n ∧ i = .int .i64 j ∧ Hid (wr.ownsRow w2.heap.size 47 1 (.slice (some ⟨gx, 0, none⟩) n c3p) n ((mixR xx x.cs j).map (Value.int .i64))) ∧ Hid (wr.ownsRow w2.heap.size 47 1 (.slice (some ⟨gw, 0, none⟩) (k * n) c1p) (k * n) (xw.map (Value.int .i64))) ∧ Hid (Save (fun k => k = gw ∨ k = gx) wE wr)) (fun i _ => n - (intOf i).toNat)
      case atStart => exact ⟨0, Nat.zero_le _, rfl, hrx, hrg, hbr⟩
      case round =>
        clear hrg hrx hbr
        obtain ⟨j, hj, rfl, hrow, hrg, hbr⟩ := hrel
        by_cases hlt : j < n
        · have hs := XX.out j hlt
          have hD := fun w' hs A cp hI => DD.out w' hs j A cp hI
          obtain ⟨d, hd⟩ : ∃ d, dotF (colD W.cs n k j) G.cs = d := ⟨_, rfl⟩
          rw [hd] at hs
          simp only [hd] at hD
          have D2 := Lib.hid hD
          clear hD hd
          go_wp2_with fail
          have SK := Lib.hid (fun w' (hb : Save (fun k => k = gw ∨ k = gx) wE w') => (show w'.cell? ⟨D, 5, none⟩ = some (.slice (some ⟨gx, 0, none⟩) n c3p) ∧ w'.cell? ⟨w.heap.size, 0, none⟩ = some (.slice (some ⟨b, off, none⟩) 2 W.sc) ∧ w'.cell? ⟨w.heap.size, 1, none⟩ = some (.slice (some ⟨cb, co, none⟩) (k * n) W.cc) ∧ w'.cell? ⟨w.heap.size + 1 + 1 + 1, 1, none⟩ = some (.slice (some ⟨gb, gf, none⟩) k G.cc) from ⟨(S2.out w' hb).2.2.2.2.2.1, (S2.out w' hb).1, (S2.out w' hb).2.1, (S2.out w' hb).2.2.2.1⟩))
          have t1 := Lib.hid (show Below wr.heap.size wr wr.drew from (Below.refl _ _).drew)
          refine wp_region_held_drew (S := fun w' => w'.cell? ⟨D, 5, none⟩ = some (.slice (some ⟨gx, 0, none⟩) n c3p) ∧ w'.cell? ⟨w.heap.size, 0, none⟩ = some (.slice (some ⟨b, off, none⟩) 2 W.sc) ∧ w'.cell? ⟨w.heap.size, 1, none⟩ = some (.slice (some ⟨cb, co, none⟩) (k * n) W.cc) ∧ w'.cell? ⟨w.heap.size + 1 + 1 + 1, 1, none⟩ = some (.slice (some ⟨gb, gf, none⟩) k G.cc)) (by kernel_rfl) (SK.out _ (hbr.out.later t1.out)) (fun hHeld => ?_)
          refine held_take 0 (.pointer (some ⟨D, 4, none⟩)) rfl (by kernel_rfl) (by kernel_rfl) (by kernel_rfl) (fun _ _ _ h => h) (by rfl) (by intro w' hS; go_simp) (by assumption) ?_
          try simp only [Act.put, List.setIfInBounds_toArray, List.set_cons_zero, List.set_cons_succ]
          refine held_take 1 (.pointer (some ⟨D, 5, none⟩)) rfl (by kernel_rfl) (by kernel_rfl) (by kernel_rfl) (fun _ _ _ h => h) (by rfl) (by intro w' hS; go_simp) (by assumption) ?_
          try simp only [Act.put, List.setIfInBounds_toArray, List.set_cons_zero, List.set_cons_succ]
          refine held_take 2 (.slice (some ⟨gx, 0, none⟩) n c3p) rfl (by kernel_rfl) (by kernel_rfl) (by kernel_rfl) (fun _ _ _ h => h) (by rfl) (by intro w' hS; go_simp) (by assumption) ?_
          try simp only [Act.put, List.setIfInBounds_toArray, List.set_cons_zero, List.set_cons_succ]
          refine held_take 3 (.int .i64 j) rfl (by kernel_rfl) (by kernel_rfl) (by kernel_rfl) (fun _ _ _ h => h) (by rfl) (by intro w' hS; go_simp) (by assumption) ?_
          try simp only [Act.put, List.setIfInBounds_toArray, List.set_cons_zero, List.set_cons_succ]
          refine held_take 4 (.agg #[.slice (some ⟨b, off, none⟩) 2 W.sc, .slice (some ⟨cb, co, none⟩) (k * n) W.cc]) rfl (by kernel_rfl) (by kernel_rfl) (by kernel_rfl) (fun _ _ _ h => h) (by rfl) (by intro w' hS; go_simp) (by assumption) ?_
          try simp only [Act.put, List.setIfInBounds_toArray, List.set_cons_zero, List.set_cons_succ]
          refine held_take 5 (.int .i64 j) rfl (by kernel_rfl) (by kernel_rfl) (by kernel_rfl) (fun _ _ _ h => h) (by rfl) (by intro w' hS; go_simp) (by assumption) ?_
          try simp only [Act.put, List.setIfInBounds_toArray, List.set_cons_zero, List.set_cons_succ]
          refine held_take 7 (.pointer (some ⟨w.heap.size + 1 + 1 + 1, 1, none⟩)) rfl (by kernel_rfl) (by kernel_rfl) (by kernel_rfl) (fun _ _ _ h => h) (by rfl) (by intro w' hS; go_simp) (by assumption) ?_
          try simp only [Act.put, List.setIfInBounds_toArray, List.set_cons_zero, List.set_cons_succ]
          refine held_take 8 (.slice (some ⟨gb, gf, none⟩) k G.cc) rfl (by kernel_rfl) (by kernel_rfl) (by kernel_rfl) (fun _ _ _ h => h) (by rfl) (by intro w' hS; go_simp) (by assumption) ?_
          try simp only [Act.put, List.setIfInBounds_toArray, List.set_cons_zero, List.set_cons_succ]
          refine held_call 6 (by kernel_rfl) rfl (by rfl) (fun K hK => ?_)
          go_simp
          refine (CO2.out wr.drew (hbr.out.later t1.out) j hlt).mono ?_
          rintro e wq1 ⟨A, cp, rfl, oc, hb⟩
          have bq1 := Lib.hid (t1.out.trans ((hb).mono t1.out.size))
          have hIC := Lib.hid (row_ints oc (by omega) (colD_fits hWf.out n k j))
          clear oc
          go_wp2_with fail
          refine hK.out _ _ (SK.out _ (hbr.out.later bq1.out)) (fun hHeld => ?_)
          try simp only [Act.put, List.setIfInBounds_toArray, List.set_cons_zero, List.set_cons_succ]
          refine held_call 9 (by kernel_rfl) rfl (by rfl) (fun K hK => ?_)
          go_simp
          refine (D2.out wq1 (hbr.out.later bq1.out) A cp hIC.out).mono ?_
          rintro e _ ⟨rfl, nq, rfl⟩
          have bq2 := Lib.hid (bq1.out.trans ((below_drewN' (Below.refl _ _) nq).mono bq1.out.size))
          go_wp2_with fail
          refine hK.out _ _ (SK.out _ (hbr.out.later bq2.out)) (fun hHeld => ?_)
          try simp only [Act.put, List.setIfInBounds_toArray, List.set_cons_zero, List.set_cons_succ]
          refine held_take 10 (.pointer (some ⟨gx, j, none⟩)) rfl (by kernel_rfl) (by kernel_rfl) (by kernel_rfl) (fun _ _ _ h => h) (by rfl) (by intro w' hS; go_simp) (by assumption) ?_
          try simp only [Act.put, List.setIfInBounds_toArray, List.set_cons_zero, List.set_cons_succ]
          have hrw := row_kept hrow.out bq2.out
          have hcell : (wq1.drewN nq).cell? ⟨gx, j, none⟩ = some (.int .i64 (x.cs.getD j 0)) := by
            have e : (wq1.drewN nq).cell? ⟨gx, j, none⟩ = ((mixR xx x.cs j).map (Value.int .i64))[j]? := hrw.cellAt j (by omega)
            rw [List.getElem?_map, mixR_get (by rw [hxxl.out, hXl.out]) (by rw [hXl.out]; exact hlt)] at e
            exact e
          have hf := hrw.frozenAt j
          obtain ⟨ho4, hg4⟩ := hrw.stored j (.int .i64 d)
          rw [← hs, ← List.map_set, mixR_set (by rw [hxxl.out, hXl.out]) (by rw [hXl.out]; exact hlt), hs] at ho4
          have ho4' := Lib.hid ho4
          have hrg4 := Lib.hid (row_apart (p := ⟨gx, j, none⟩) (u := .int .i64 d) (row_kept hrg.out bq2.out) (by intro q hq; cases hq; exact hgwx))
          have hb4 := Lib.hid ((hbr.out.later bq2.out).setCell (g := gx) (Or.inr rfl) j (.int .i64 d))
          have SK4 := SK.out _ hb4.out
          clear ho4 hg4 hrw
          refine held_call 11 (by kernel_rfl) rfl (by rfl) (fun K hK => ?_)
          go_simp
          refine hK.out _ _ (SK4) (fun hHeld => ?_)
          try simp only [Act.put, List.setIfInBounds_toArray, List.set_cons_zero, List.set_cons_succ]
          refine wpAnyH_done (by kernel_rfl) ?_ _
          go_wp2_with fail
          go_roundw
          case rel => exact ⟨j + 1, by omega, by go_num, ho4', hrg4, hb4⟩
          case measure => (simp [intOf]; try omega)
        · obtain rfl : j = n := by omega
          rw [mixR_all hxxl.out hXl.out] at hrow
          obtain ⟨g0, g1, g2, g3, g4, g5⟩ := (JD'.out.saved hbr.out (by omega)).see
          have JR := J5'.out.saved hbr.out (by omega)
          obtain ⟨e0, e1, e2, e3, e4, e5⟩ := JR.see
          obtain ⟨f0, f1, f2, f3, f4, f5⟩ := JR.live
          obtain ⟨h0, h1, h2, h3, h4, h5⟩ := (JR.set (.slice (some ⟨a1, 0, none⟩) 2 c1) (.slice (some ⟨gw, 0, none⟩) (k * j) c1p) (.slice A2 G.sl c2) (.slice A2p k c2p) (.slice A3 x.sl c3) (.slice (some ⟨gx, 0, none⟩) j c3p)).see
          obtain ⟨⟨ap1, ap2⟩, ap3, ap4, ap5, ap6⟩ := APT.out
          have BF := gset_below (K := w.heap.size + 1 + 1 + 1 + 1) (a := (.slice (some ⟨a1, 0, none⟩) 2 c1)) (b := (.slice (some ⟨gw, 0, none⟩) (k * j) c1p)) (c := (.slice A2 G.sl c2)) (d := (.slice A2p k c2p)) (e := (.slice A3 x.sl c3)) (f := (.slice (some ⟨gx, 0, none⟩) j c3p)) (BW.out _ hbr.out) (show w.heap.size ≤ w.heap.size + 1 + 1 + 1 + 1 by omega)
          have FR : ∀ (A : Option Addr) (l cp n' : Nat) (xs : List Value) (T : TypeId) (v : World), v.ownsRow w2.heap.size T 1 (.slice A l cp) n' xs → FreeOf (w.heap.size + 1 + 1 + 1 + 1) A := fun A l cp n' xs T v h p hp => by have := (row_range h p hp).1; omega
          have R1F := row_gset (a := (.slice (some ⟨a1, 0, none⟩) 2 c1)) (b := (.slice (some ⟨gw, 0, none⟩) (k * j) c1p)) (c := (.slice A2 G.sl c2)) (d := (.slice A2p k c2p)) (x := (.slice A3 x.sl c3)) (f := (.slice (some ⟨gx, 0, none⟩) j c3p)) (hbr.out.row r1.out (apart_own (fun p q hp hq => by cases hp; cases hq; exact ha1w) (fun p q hp hq => by cases hp; cases hq; exact ha1x))) (FR _ _ _ _ _ _ _ r1.out)
          have R1pF := row_gset (a := (.slice (some ⟨a1, 0, none⟩) 2 c1)) (b := (.slice (some ⟨gw, 0, none⟩) (k * j) c1p)) (c := (.slice A2 G.sl c2)) (d := (.slice A2p k c2p)) (x := (.slice A3 x.sl c3)) (f := (.slice (some ⟨gx, 0, none⟩) j c3p)) hrg.out (FR _ _ _ _ _ _ _ hrg.out)
          have R2F := row_gset (a := (.slice (some ⟨a1, 0, none⟩) 2 c1)) (b := (.slice (some ⟨gw, 0, none⟩) (k * j) c1p)) (c := (.slice A2 G.sl c2)) (d := (.slice A2p k c2p)) (x := (.slice A3 x.sl c3)) (f := (.slice (some ⟨gx, 0, none⟩) j c3p)) (hbr.out.row r2.out (apart_own ap1 ap4)) (FR _ _ _ _ _ _ _ r2.out)
          have R2pF := row_gset (a := (.slice (some ⟨a1, 0, none⟩) 2 c1)) (b := (.slice (some ⟨gw, 0, none⟩) (k * j) c1p)) (c := (.slice A2 G.sl c2)) (d := (.slice A2p k c2p)) (x := (.slice A3 x.sl c3)) (f := (.slice (some ⟨gx, 0, none⟩) j c3p)) (hbr.out.row r2p.out (apart_own ap2 ap5)) (FR _ _ _ _ _ _ _ r2p.out)
          have R3F := row_gset (a := (.slice (some ⟨a1, 0, none⟩) 2 c1)) (b := (.slice (some ⟨gw, 0, none⟩) (k * j) c1p)) (c := (.slice A2 G.sl c2)) (d := (.slice A2p k c2p)) (x := (.slice A3 x.sl c3)) (f := (.slice (some ⟨gx, 0, none⟩) j c3p)) (hbr.out.row r3.out (apart_own ap3 ap6)) (FR _ _ _ _ _ _ _ r3.out)
          have R3pF := row_gset (a := (.slice (some ⟨a1, 0, none⟩) 2 c1)) (b := (.slice (some ⟨gw, 0, none⟩) (k * j) c1p)) (c := (.slice A2 G.sl c2)) (d := (.slice A2p k c2p)) (x := (.slice A3 x.sl c3)) (f := (.slice (some ⟨gx, 0, none⟩) j c3p)) hrow.out (FR _ _ _ _ _ _ _ hrow.out)
          have P : OkD w W.ss xw G.ss G.cs x.ss xx (.returned (.tuple #[.agg #[.slice (some ⟨a1, 0, none⟩) 2 c1, .slice (some ⟨gw, 0, none⟩) (k * j) c1p, .slice A2 G.sl c2, .slice A2p k c2p, .slice A3 x.sl c3, .slice (some ⟨gx, 0, none⟩) j c3p], .int .i64 0])) _ :=
            ⟨⟨some ⟨a1, 0, none⟩, 2, c1, W.ss, some ⟨gw, 0, none⟩, k * j, c1p, xw⟩, ⟨A2, G.sl, c2, G.ss, A2p, k, c2p, G.cs⟩, ⟨A3, x.sl, c3, x.ss, some ⟨gx, 0, none⟩, j, c3p, xx⟩, rfl,
              ⟨row_ints R1F (show 2 ≤ 9223372036854775807 by omega) hSf.out.1, row_ints R1pF (show k * j ≤ 9223372036854775807 by omega) fxw.out, by show 2 ≤ 17592186044416; omega, by show k * j ≤ 17592186044416; omega⟩,
              ⟨row_ints R2F (show G.sl ≤ 9223372036854775807 by omega) hSf.out.2.1, row_ints R2pF (show k ≤ 9223372036854775807 by omega) hGf.out, by show G.sl ≤ 17592186044416; omega, by show k ≤ 17592186044416; omega⟩,
              ⟨row_ints R3F (show x.sl ≤ 9223372036854775807 by omega) hSf.out.2.2, row_ints R3pF (show j ≤ 9223372036854775807 by omega) fxx.out, by show x.sl ≤ 17592186044416; omega, by show j ≤ 17592186044416; omega⟩, ⟨rfl, rfl⟩, ⟨rfl, rfl⟩, ⟨rfl, rfl⟩, BF⟩
          simp only [gset] at P h0 h1 h2 h3 h4 h5
          have P' := Lib.hid P
          clear P R1F R1pF R2F R2pF R3F R3pF FR BF JR ap1 ap2 ap3 ap4 ap5 ap6
          go_wp2_with fail
          refine bodyPost_ret (v := .tuple #[.agg #[.slice (some ⟨a1, 0, none⟩) 2 c1, .slice (some ⟨gw, 0, none⟩) (k * j) c1p, .slice A2 G.sl c2, .slice A2p k c2p, .slice A3 x.sl c3, .slice (some ⟨gx, 0, none⟩) j c3p], .int .i64 0]) ?_ rfl P'.out
          simp [results, Try.results15, go_sem, h0, h1, h2, h3, h4, h5]

end Go.Proofs.Ytlpecdfiagklpaa
