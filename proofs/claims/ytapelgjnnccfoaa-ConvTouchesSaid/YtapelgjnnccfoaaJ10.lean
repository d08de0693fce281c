import Derived.Test.YtapelgjnnccfoaaJ01
import Derived.Test.YtapelgjnnccfoaaJ09
/-
  The contract of package conv's Back: the gradients.
-/
namespace Go.Proofs.Ytapelgjnnccfoaa
open Go.RowKit Go.Shelf
attribute [local go_sem] Oper.semAt_some
set_option linter.unusedVariables false
set_option linter.unusedSimpArgs false

/-- The two new tensors, their box, the world. -/
structure GQ2 where
  D : Nat
  A1 : Option Addr
  c1 : Nat
  A1p : Option Addr
  c1p : Nat
  A2 : Option Addr
  c2 : Nat
  A2p : Option Addr
  c2p : Nat
  W : World
def ApartB (A B : Option Addr) : Prop := ∀ p q, A = some p → B = some q → p.block ≠ q.block
def FreeB (D : Nat) (A : Option Addr) : Prop := ∀ p, A = some p → p.block ≠ D
def GP2 (w2 : World) (l1 : Nat) (s1 : List Int) (n1 : Nat) (d1 : List Int) (l2 : Nat) (s2 : List Int) (n2 : Nat) (d2 : List Int) (q : GQ2) : Prop :=
  GdAt q.W q.D (.slice q.A1 l1 q.c1) (.slice q.A1p n1 q.c1p) (.slice q.A2 l2 q.c2) (.slice q.A2p n2 q.c2p) ∧
  (q.W.ownsRow w2.heap.size 3 1 (.slice q.A1 l1 q.c1) l1 (s1.map (Value.int .i64)) ∧ q.W.ownsRow w2.heap.size 56 1 (.slice q.A1p n1 q.c1p) n1 (d1.map (Value.int .i64))) ∧
  (q.W.ownsRow w2.heap.size 3 1 (.slice q.A2 l2 q.c2) l2 (s2.map (Value.int .i64)) ∧ q.W.ownsRow w2.heap.size 56 1 (.slice q.A2p n2 q.c2p) n2 (d2.map (Value.int .i64))) ∧
  (ApartB q.A1 q.A1p ∧ ApartB q.A2 q.A1p ∧ ApartB q.A1 q.A2p ∧ ApartB q.A2 q.A2p ∧ ApartB q.A1p q.A2p) ∧ (FreeB q.D q.A1p ∧ FreeB q.D q.A2p) ∧
  Below w2.heap.size w2 q.W ∧ w2.heap.size ≤ q.D ∧ q.D < q.W.heap.size
theorem row_gdset {w : World} {B : Nat} {e : TypeId} {k : Nat} {A : Option Addr} {l cp n : Nat} {xs : List Value} {K : Nat} {a b c d : Value} (h : w.ownsRow B e k (.slice A l cp) n xs) (hp : FreeB K A) : (gdset w K a b c d).ownsRow B e k (.slice A l cp) n xs := by
  have hq : ∀ q, (Value.slice A l cp).ownBlock = some q → q ≠ K := by
    intro q hq
    cases A with
    | none => cases hq
    | some p => cases hq; exact hp p rfl
  exact row_apart (row_apart (row_apart (row_apart h hq) hq) hq) hq
theorem row_rangeB {w : World} {B : Nat} {e : TypeId} {k : Nat} {A : Option Addr} {l cp n : Nat} {xs : List Value} (h : w.ownsRow B e k (.slice A l cp) n xs) : ∀ p, A = some p → B ≤ p.block ∧ p.block < w.heap.size := by
  rintro p rfl
  exact h.lt p.block rfl
theorem gp2_make {w2 wS u1 v1 u2 v2 : World} {D : Nat} {a b c d : Value} {A1 A1p A2 A2p : Option Addr} {c1 c1p c2 c2p l1 l2 n1 n2 : Nat} {s1 d1 s2 d2 : List Int}
    (JD : GdAt wS D a b c d) (hb : Below w2.heap.size w2 wS)
    (o1 : v1.ownsRow u1.heap.size 3 1 (.slice A1 l1 c1) l1 (s1.map (Value.int .i64))) (o1p : v1.ownsRow u1.heap.size 56 1 (.slice A1p n1 c1p) n1 (d1.map (Value.int .i64))) (ne1 : ∀ p q, A1 = some p → A1p = some q → p.block ≠ q.block) (k1 : Below v1.heap.size v1 wS)
    (o2 : v2.ownsRow u2.heap.size 3 1 (.slice A2 l2 c2) l2 (s2.map (Value.int .i64))) (o2p : v2.ownsRow u2.heap.size 56 1 (.slice A2p n2 c2p) n2 (d2.map (Value.int .i64))) (ne2 : ∀ p q, A2 = some p → A2p = some q → p.block ≠ q.block) (k2 : Below v2.heap.size v2 wS)
    (h1 : w2.heap.size ≤ u1.heap.size) (h2 : w2.heap.size ≤ u2.heap.size) (q1 : v1.heap.size ≤ u2.heap.size) (hD : w2.heap.size ≤ D)
    (x1 : D < u1.heap.size ∨ v1.heap.size ≤ D) (x2 : D < u2.heap.size ∨ v2.heap.size ≤ D) :
    GP2 w2 l1 s1 n1 d1 l2 s2 n2 d2 ⟨D, A1, c1, A1p, c1p, A2, c2, A2p, c2p, gdset wS D (.slice A1 l1 c1) (.slice A1p n1 c1p) (.slice A2 l2 c2) (.slice A2p n2 c2p)⟩ := by
  have r1 := row_rangeB o1
  have r1p := row_rangeB o1p
  have r2 := row_rangeB o2
  have r2p := row_rangeB o2p
  have JS := JD.set (.slice A1 l1 c1) (.slice A1p n1 c1p) (.slice A2 l2 c2) (.slice A2p n2 c2p)
  refine ⟨JS, ⟨row_gdset (Joins.ownsRow_le (row_kept o1 k1) h1) ?_, row_gdset (Joins.ownsRow_le (row_kept o1p k1) h1) ?_⟩, ⟨row_gdset (Joins.ownsRow_le (row_kept o2 k2) h2) ?_, row_gdset (Joins.ownsRow_le (row_kept o2p k2) h2) ?_⟩,
    ⟨ne1, ?_, ?_, ne2, ?_⟩, ⟨?_, ?_⟩, gdset_below hb hD, hD, JS.lt⟩
  · intro p hp; have := r1 p hp; omega
  · intro p hp; have := r1p p hp; omega
  · intro p hp; have := r2 p hp; omega
  · intro p hp; have := r2p p hp; omega
  · intro p q hp hq; have := r2 p hp; have := r1p q hq; omega
  · intro p q hp hq; have := r1 p hp; have := r2p q hq; omega
  · intro p q hp hq; have := r1p p hp; have := r2p q hq; omega
  · intro p hp; have := r1p p hp; show p.block ≠ D; omega
  · intro p hp; have := r2p p hp; show p.block ≠ D; omega
theorem wp_cutQ {P : Program} {c : Code} {Q : Exit → Act → World → Prop} {a : Act} {w : World} {ι : Type} (H : ι → Prop) (f : ι → Act → Act) (w₀ : ι → World)
    (h : c.wp P (CutP H f w₀ a) a w) (hk : ∀ x, H x → Q .normal (f x a) (w₀ x)) : c.wp P Q a w :=
  Code.wp_mono (by rintro e a' w' ⟨x, hx, rfl, rfl, rfl⟩; exact hk x hx) h

/-- Two tensors and no error. -/
def OkB (w : World) (l1 : Nat) (s1 : List Int) (n1 : Nat) (d1 : List Int) (l2 : Nat) (s2 : List Int) (n2 : Nat) (d2 : List Int) (e : Ending) (w' : World) : Prop :=
  ∃ A1 c1 A2 c2 A3 c3 A4 c4, e = .returned (.tuple #[.agg #[.slice A1 l1 c1, .slice A2 n1 c2, .slice A3 l2 c3, .slice A4 n2 c4], .int .i64 0]) ∧ IntsAt w' A1 l1 s1 ∧ IntsAt w' A2 n1 d1 ∧ IntsAt w' A3 l2 s2 ∧ IntsAt w' A4 n2 d2 ∧ Below w.heap.size w w'

/-- Between two rounds: the boxes, and the gradients as far as they are reckoned. -/
def BackI (K a1 c1 gw cw a2 c2 gx cx wl wn xl xn : Nat) (W x G : TV) (w : World) (pre : List Tri) (O : BSet) (V : World) : Prop :=
  Has O V w.heap.size #[.slice W.sa W.sl W.sc, .slice W.ca W.cl W.cc] 34 ∧ Has O V (w.heap.size + 1) #[.slice x.sa x.sl x.sc, .slice x.ca x.cl x.cc] 34 ∧ Has O V (w.heap.size + 2) #[.slice G.sa G.sl G.sc, .slice G.ca G.cl G.cc] 34 ∧
    Has O V (w.heap.size + 3) #[.slice none 0 0, .slice none 0 0, .slice none 0 0, .slice none 0 0] 49 ∧
    Has O V K #[.slice (some ⟨a1, 0, none⟩) wl c1, .slice (some ⟨gw, 0, none⟩) wn cw, .slice (some ⟨a2, 0, none⟩) xl c2, .slice (some ⟨gx, 0, none⟩) xn cx] 49 ∧ RowO O V (w.heap.size + 4) 3 a1 wl c1 W.ss ∧ RowO O V (w.heap.size + 4) 3 a2 xl c2 x.ss ∧
    RowO O V (w.heap.size + 4) 56 gw wn cw (runP wn (backV1 G.cs x.cs) pre) ∧ RowO O V (w.heap.size + 4) 56 gx xn cx (runP xn (backV2 G.cs W.cs) pre) ∧ Base w O V ∧ (∀ k, O k → k < V.heap.size)
theorem BackI.stable (K a1 c1 gw cw a2 c2 gx cx wl wn xl xn : Nat) (W x G : TV) (w : World) (pre : List Tri) : Stable (BackI K a1 c1 gw cw a2 c2 gx cx wl wn xl xn W x G w pre) := by
  rintro O V O' V' ⟨h1, h2, h3, h4, h5, h6, h7, h8, h9, h10, h11⟩ hs
  exact ⟨h1.stable hs, h2.stable hs, h3.stable hs, h4.stable hs, h5.stable hs, h6.stable hs, h7.stable hs, h8.stable hs, h9.stable hs, h10.stable hs, fun k hk => (hs.top k hk).elim (fun h => Nat.lt_of_lt_of_le (h11 k h) hs.size) id⟩
/-- A whole block of one type is no row of another. -/
theorem Has.notRow {O : BSet} {V : World} {k : Nat} {cur : Array Value} {t t' : TypeId} {B g n c : Nat} {zs : List Int} (h : Has O V k cur t) (hr : RowO O V B t' g n c zs) (ht : t ≠ t') : k ≠ g := by
  rintro rfl
  have h1 := h.2
  rcases hr.1.2 with h2 | ⟨g', cap', cur', hv', -, hg', -⟩
  · cases h2.1
  · cases hv'
    rw [hg'] at h1
    injection h1 with h1
    injection h1 with h1 h2
    exact ht h2.symm

set_option maxRecDepth 100000 in
set_option maxHeartbeats 8000000 in
theorem convback_ok (W x G : TV) (s : Int) (w : World) (h : W.At w) (h' : x.At w) (hg : G.At w) (c1 : W.CapS) (c2 : x.CapS) (hs1 : -9223372036854775808 ≤ s) (hs2 : s ≤ 9223372036854775807) (hE : tensE W x s = 0) (hG : gOk G (outS W.ss x.ss s) = true) :
    Calls Try.prog 20 #[.agg #[.slice W.sa W.sl W.sc, .slice W.ca W.cl W.cc], .agg #[.slice x.sa x.sl x.sc, .slice x.ca x.cl x.cc], .agg #[.slice G.sa G.sl G.sc, .slice G.ca G.cl G.cc], .int .i64 s] w (OkB w W.sl W.ss W.cl (runP W.cl (backV1 G.cs x.cs) (touchL W.ss x.ss s)) x.sl x.ss x.cl (runP x.cl (backV2 G.cs W.cs) (touchL W.ss x.ss s))) := by
  have hrr : rightT W.ss W.cl = true ∧ rightT x.ss x.cl = true := by
    by_cases c : rightT W.ss W.cl = true ∧ rightT x.ss x.cl = true
    · exact c
    · rw [tensE_no c] at hE; omega
  have hT : toldE W.ss x.ss s = 0 := by rw [← tensE_yes hrr.1 hrr.2]; exact hE
  obtain ⟨wr1, wr2⟩ := rightT_parts hrr.1
  obtain ⟨xr1, xr2⟩ := rightT_parts hrr.2
  unfold gOk at hG
  rw [Bool.and_eq_true] at hG
  obtain ⟨gr0, gr3⟩ := hG
  obtain ⟨gr1, gr2⟩ := rightT_parts gr0
  have gr4 := sameL_eq gr3
  have hW6 : W.cl ≤ 65536 := by have := (rightS_parts wr1).2.2.2; omega
  have hx6 : x.cl ≤ 65536 := by have := (rightS_parts xr1).2.2.2; omega
  have hW0 : 0 < W.cl := rightT_pos hrr.1
  have hx0 : 0 < x.cl := rightT_pos hrr.2
  have hg0 : 0 < G.cl := rightT_pos gr0
  have hWs : 0 < W.sl := by have := (rightS_parts wr1).1; have := h.1.1; omega
  have hxs : 0 < x.sl := by have := (rightS_parts xr1).1; have := h'.1.1; omega
  have hWs4 : W.sl ≤ 4 := by have := (rightS_parts wr1).2.1; have := h.1.1; omega
  have hxs4 : x.sl ≤ 4 := by have := (rightS_parts xr1).2.1; have := h'.1.1; omega
  have TI := Lib.hid (fun t (ht : t ∈ touchL W.ss x.ss s) => (show t.1 < G.cl ∧ t.2.1 < W.cl ∧ t.2.2 < x.cl from by
    obtain ⟨-, a, b, c⟩ := touch_in ht
    rw [← gr4] at a
    omega))
  obtain ⟨wA, hwA, J1, z1, n1⟩ := grid_box w (.slice W.sa W.sl W.sc) (.slice W.ca W.cl W.cc)
  obtain ⟨wB, hwB, J2, z2, n2⟩ := grid_box wA (.slice x.sa x.sl x.sc) (.slice x.ca x.cl x.cc)
  obtain ⟨wC, hwC, J3, z3, n3⟩ := grid_box wB (.slice G.sa G.sl G.sc) (.slice G.ca G.cl G.cc)
  obtain ⟨wD, hwD, J4, z4, n4⟩ := gd_box wC (.slice none 0 0) (.slice none 0 0) (.slice none 0 0) (.slice none 0 0)
  rw [n1.out] at J2
  rw [n2.out, n1.out] at J3
  rw [n3.out, n2.out, n1.out] at J4
  have z12 := z1.out.trans (z2.out.mono z1.out.size)
  have z13 := z12.trans (z3.out.mono z12.size)
  have z := Lib.hid (z13.trans (z4.out.mono z13.size))
  have J1' := Lib.hid (((J1.out.kept z2.out).kept z3.out).kept z4.out)
  have J2' := Lib.hid ((J2.out.kept z3.out).kept z4.out)
  have J3' := Lib.hid (J3.out.kept z4.out)
  have nC : Hid (wD.heap.size = w.heap.size + 4) := Lib.hid (by rw [n4.out, n3.out, n2.out, n1.out])
  clear z12 z13 J1 J2 J3 z1 z2 z3 n1 n2 n3
  have O := outshape_any W x s wD (h.kept z.out) (h'.kept z.out) c1 c2 hs1 hs2
  obtain ⟨j0, j1, -, -⟩ := J1'.out.see
  obtain ⟨i0, i1, -, -⟩ := J2'.out.see
  obtain ⟨l0, l1, -, -⟩ := J3'.out.see
  have O1 := Lib.hid (O.mono (fun e w' hh => hh.1 hE))
  have HF := Lib.hid (outS_fits (s := s) (told_parts hT).1)
  have hn1 : 0 < x.ss.length := by have := h'.1.1; omega
  have hn4 : x.ss.length ≤ 4 := (rightS_parts xr1).2.1
  have TR := fun w1 (hb : Below wD.heap.size wD w1) => tright_any G.sa G.sl G.sc G.ss G.ca G.cl G.cc w1 ((hg.1.kept z.out).kept hb) (by have := hg.2.2.2; omega)
  have EQ := fun A n c w1 (hb : Below wD.heap.size wD w1) (hi : IntsAt w1 A n (outS W.ss x.ss s)) => equal_any G.sa G.sl G.sc G.ss A n c (outS W.ss x.ss s) w1 ((hg.1.kept z.out).kept hb) hi
  simp only [gr0] at TR
  simp only [gr3] at EQ
  have TR1 := Lib.hid TR
  have CW0 := Lib.hid (fun w1 (hb : Below wD.heap.size wD w1) => zeros_any W.sa W.sl W.sc W.ss w1 ((h.1.kept z.out).kept hb) wr1 W.cl wr2.symm)
  have CX0 := Lib.hid (fun w1 (hb : Below wD.heap.size wD w1) => zeros_any x.sa x.sl x.sc x.ss w1 ((h'.1.kept z.out).kept hb) xr1 x.cl xr2.symm)
  have HAt := Lib.hid (And.intro h h')
  have HC := Lib.hid (And.intro c1 c2)
  have fw := Lib.hid h.2.1.2.2.1
  have fx := Lib.hid h'.2.1.2.2.1
  have fg := Lib.hid hg.2.1.2.2.1
  have fss := Lib.hid (And.intro h.1.2.2.1 h'.1.2.2.1)
  obtain ⟨wcb, wco, hwc, hwl⟩ := ints_cell h.2.1 hW0
  obtain ⟨xcb, xco, hxc, hxl⟩ := ints_cell h'.2.1 hx0
  obtain ⟨gcb, gco, hgc, hgl⟩ := ints_cell hg.2.1 hg0
  have KW := Lib.hid (fun V' (hb : Below w.heap.size w V') j (hj : j < W.cl) => cell_later hb (hwl j hj))
  have KX := Lib.hid (fun V' (hb : Below w.heap.size w V') j (hj : j < x.cl) => cell_later hb (hxl j hj))
  have KG := Lib.hid (fun V' (hb : Below w.heap.size w V') j (hj : j < G.cl) => cell_later hb (hgl j hj))
  have HWC := Lib.hid hwc
  have HXC := Lib.hid hxc
  have HGC := Lib.hid hgc
  clear hwc hxc hgc hwl hxl hgl
  obtain ⟨os, hos⟩ : ∃ l, outS W.ss x.ss s = l := ⟨_, rfl⟩
  obtain ⟨n, hn⟩ : ∃ l, x.ss.length = l := ⟨_, rfl⟩
  rw [hos] at O1 HF
  rw [hn] at O1 hn1 hn4
  simp only [hos] at EQ
  have EQ1 := Lib.hid EQ
  clear O h h' hg c1 c2 hE hT hrr hos hn wr1 wr2 xr1 xr2 gr0 gr1 gr2 gr3 gr4 TR EQ
  refine (callsIn_wide (n := 1)).1 ?_
  refine callsIn_of_wp_marks Try.func20 rfl trivial ?_ rfl
  simp only [Try.ntmps20, List.size_toArray, List.length_cons, List.length_nil, Nat.reduceAdd, Nat.reduceSub, Array.replicate_succ, Array.replicate_zero, List.push_toArray, List.append_toArray, List.nil_append, List.cons_append]
  refine wpIn_wide.2 ?_
  go_upto_region 1 with (fail)
  rw [hwA.out, hwB.out, hwC.out, hwD.out]
  go_wp2_with fail
  refine O1.out.mono ?_
  rintro e w1 ⟨A, c, rfl, ho, hb1⟩
  obtain ⟨k0, k1, -, -⟩ := (J3'.out.kept hb1).see
  have IO := Lib.hid (fun w' (hb : Below w1.heap.size w1 w') => (row_ints ho (by omega) HF.out).kept hb)
  go_wp2_with fail
  refine (TR1.out w1 hb1).mono ?_
  rintro e w1a ⟨rfl, hb1a⟩
  have hb := hb1.trans (hb1a.mono hb1.size)
  obtain ⟨k0, k1, -, -⟩ := (J3'.out.kept hb).see
  have E2 := Lib.hid (EQ1.out A n c w1a hb (IO.out w1a hb1a))
  have HB1 := Lib.hid hb
  clear hb hb1 hb1a ho O1 TR1 EQ1 IO
  go_wp2_with fail
  refine E2.out.mono ?_
  rintro e w2 ⟨rfl, nq, hnq⟩
  have hb2 : Hid (Below wD.heap.size wD w2) := Lib.hid (by rw [hnq]; exact below_drewN' HB1.out nq)
  clear hnq
  have K1 := Lib.hid (J1'.out.kept hb2.out)
  have K2 := Lib.hid (J2'.out.kept hb2.out)
  have K3 := Lib.hid (J3'.out.kept hb2.out)
  have K4 := Lib.hid (J4.out.kept hb2.out)
  have CW := Lib.hid (fun w' (hb : Below w2.heap.size w2 w') => CW0.out w' (hb2.out.trans (hb.mono hb2.out.size)))
  have CX := Lib.hid (fun w' (hb : Below w2.heap.size w2 w') => CX0.out w' (hb2.out.trans (hb.mono hb2.out.size)))
  have B2 := Lib.hid (z.out.trans (hb2.out.mono z.out.size))
  have s2 : Hid (w.heap.size + 4 ≤ w2.heap.size) := Lib.hid (by have := hb2.out.size; rw [nC.out] at this; exact this)
  clear J1' J2' J3' J4 j0 j1 i0 i1 l0 l1 k0 k1 E2 HB1 CW0 CX0 hwA hwB hwC hwD
  go_upto_region 6 with (fail)
  have SK := Lib.hid (fun w' (hb : Below w2.heap.size w2 w') => (show w'.cell? ⟨w.heap.size, 0, none⟩ = some (.slice W.sa W.sl W.sc) ∧ w'.cell? ⟨w.heap.size + 1, 0, none⟩ = some (.slice x.sa x.sl x.sc) from ⟨(K1.out.kept hb).see.1, (K2.out.kept hb).see.1⟩))
  have t1 := Lib.hid (show Below w2.heap.size w2 w2.drew from (Below.refl _ _).drew)
  refine wp_cutQ (ι := GQ2) (GP2 w2 W.sl W.ss W.cl (List.replicate W.cl 0) x.sl x.ss x.cl (List.replicate x.cl 0)) (fun q act => ((((((((act.put (some 39) (.pointer (some ⟨w.heap.size, 0, none⟩))).put (some 40) (.slice W.sa W.sl W.sc)).put (some 41) (.agg #[.slice q.A1 W.sl q.c1, .slice q.A1p W.cl q.c1p])).put (some 42) (.pointer (some ⟨w.heap.size + 1, 0, none⟩))).put (some 43) (.slice x.sa x.sl x.sc)).put (some 44) (.agg #[.slice q.A2 x.sl q.c2, .slice q.A2p x.cl q.c2p])).put (some 45) (.agg #[.slice q.A1 W.sl q.c1, .slice q.A1p W.cl q.c1p, .slice q.A2 x.sl q.c2, .slice q.A2p x.cl q.c2p])).put (some 12) (.pointer (some ⟨q.D, 0, none⟩)))) (fun q => q.W) ?_ ?_
  · refine wp_region_held_drew (S := fun w' => w'.cell? ⟨w.heap.size, 0, none⟩ = some (.slice W.sa W.sl W.sc) ∧ w'.cell? ⟨w.heap.size + 1, 0, none⟩ = some (.slice x.sa x.sl x.sc)) (by kernel_rfl) (SK.out _ t1.out) (fun hHeld => ?_)
    refine held_take 0 (.pointer (some ⟨w.heap.size, 0, none⟩)) rfl (by kernel_rfl) (by kernel_rfl) (by kernel_rfl) (fun _ _ _ h => by obtain ⟨_, _, h, _⟩ := h; cases h) (by rfl) (by intro w' hS; go_simp) (by assumption) ?_
    try simp only [Act.put, List.setIfInBounds_toArray, List.set_cons_zero, List.set_cons_succ]
    refine held_take 1 (.slice W.sa W.sl W.sc) rfl (by kernel_rfl) (by kernel_rfl) (by kernel_rfl) (fun _ _ _ h => by obtain ⟨_, _, h, _⟩ := h; cases h) (by rfl) (by intro w' hS; go_simp) (by assumption) ?_
    try simp only [Act.put, List.setIfInBounds_toArray, List.set_cons_zero, List.set_cons_succ]
    refine held_take 3 (.pointer (some ⟨w.heap.size + 1, 0, none⟩)) rfl (by kernel_rfl) (by kernel_rfl) (by kernel_rfl) (fun _ _ _ h => by obtain ⟨_, _, h, _⟩ := h; cases h) (by rfl) (by intro w' hS; go_simp) (by assumption) ?_
    try simp only [Act.put, List.setIfInBounds_toArray, List.set_cons_zero, List.set_cons_succ]
    refine held_take 4 (.slice x.sa x.sl x.sc) rfl (by kernel_rfl) (by kernel_rfl) (by kernel_rfl) (fun _ _ _ h => by obtain ⟨_, _, h, _⟩ := h; cases h) (by rfl) (by intro w' hS; go_simp) (by assumption) ?_
    try simp only [Act.put, List.setIfInBounds_toArray, List.set_cons_zero, List.set_cons_succ]
    refine held_two 2 7 (by kernel_rfl) rfl rfl (by rfl) (by rfl) (fun K hK => ?_) (fun K hK => ?_)
    · go_simp
      refine (CW.out w2.drew t1.out).mono ?_
      rintro e v1 ⟨v', rfl, A1, c1, A1p, c1p, rfl, o1, o1p, ne1, hb⟩
      have bv1 := Lib.hid (t1.out.trans (hb.mono t1.out.size))
      have hb1 := Lib.hid hb
      replace o1 := Lib.hid o1
      replace o1p := Lib.hid o1p
      replace ne1 := Lib.hid ne1
      clear hb
      go_wp2_with fail
      refine hK.out _ _ (SK.out _ bv1.out) (fun hHeld => ?_)
      try simp only [Act.put, List.setIfInBounds_toArray, List.set_cons_zero, List.set_cons_succ]
      refine held_two 5 7 (by kernel_rfl) rfl rfl (by rfl) (by rfl) (fun K hK => ?_) (fun K hK => ?_)
      · go_simp
        refine (CX.out v1 bv1.out).mono ?_
        rintro e v2 ⟨v', rfl, A2, c2, A2p, c2p, rfl, o2, o2p, ne2, hb⟩
        have bv2 := Lib.hid (bv1.out.trans (hb.mono bv1.out.size))
        have hb2 := Lib.hid hb
        replace o2 := Lib.hid o2
        replace o2p := Lib.hid o2p
        replace ne2 := Lib.hid ne2
        clear hb
        go_wp2_with fail
        refine hK.out _ _ (SK.out _ bv2.out) (fun hHeld => ?_)
        try simp only [Act.put, List.setIfInBounds_toArray, List.set_cons_zero, List.set_cons_succ]
        refine held_take 6 (.agg #[.slice A1 W.sl c1, .slice A1p W.cl c1p, .slice A2 x.sl c2, .slice A2p x.cl c2p]) rfl (by kernel_rfl) (by kernel_rfl) (by kernel_rfl) (fun _ _ _ h => by obtain ⟨_, _, h, _⟩ := h; cases h) (by rfl) (by intro w' hS; go_simp) (by assumption) ?_
        try simp only [Act.put, List.setIfInBounds_toArray, List.set_cons_zero, List.set_cons_succ]
        refine held_call 7 (by kernel_rfl) rfl (by rfl) (fun K hK => ?_)
        go_simp
        obtain ⟨v2a, hwN, JN, zN, nN⟩ := gd_box v2 (.slice none 0 0) (.slice none 0 0) (.slice none 0 0) (.slice none 0 0)
        rw [hwN.out]
        have bv2a := Lib.hid (bv2.out.trans (zN.out.mono bv2.out.size))
        refine hK.out _ _ (SK.out _ bv2a.out) (fun hHeld => ?_)
        try simp only [Act.put, List.setIfInBounds_toArray, List.set_cons_zero, List.set_cons_succ]
        have JD : GdAt v2a v2.heap.size (.slice none 0 0) (.slice none 0 0) (.slice none 0 0) (.slice none 0 0) := JN.out
        obtain ⟨e0, e1, e2, e3⟩ := JD.see
        obtain ⟨f0, f1, f2, f3⟩ := JD.live
        have HG : GP2 w2 W.sl W.ss W.cl (List.replicate W.cl 0) x.sl x.ss x.cl (List.replicate x.cl 0) ⟨v2.heap.size, A1, c1, A1p, c1p, A2, c2, A2p, c2p, gdset v2a v2.heap.size (.slice A1 W.sl c1) (.slice A1p W.cl c1p) (.slice A2 x.sl c2) (.slice A2p x.cl c2p)⟩ := by
          have := t1.out.size
          have := hb1.out.size
          have := hb2.out.size
          have := zN.out.size
          have := nN.out
          exact gp2_make JD bv2a.out o1.out o1p.out ne1.out (hb2.out.trans (zN.out.mono hb2.out.size)) o2.out o2p.out ne2.out zN.out (by omega) (by omega) (by omega) (by omega) (by omega) (by omega)
        simp only [gdset] at HG
        replace HG := Lib.hid HG
        have SS := SK.out _ (gdset_below (a := .slice A1 W.sl c1) (b := .slice A1p W.cl c1p) (c := .slice A2 x.sl c2) (d := .slice A2p x.cl c2p) bv2a.out (show w2.heap.size ≤ v2.heap.size by (have := t1.out.size; have := hb1.out.size; have := hb2.out.size; have := zN.out.size; omega)))
        simp only [gdset] at SS
        refine held_call 8 (by kernel_rfl) rfl (by rfl) (fun K hK => ?_)
        go_simp
        refine hK.out _ _ SS (fun hHeld => ?_)
        try simp only [Act.put, List.setIfInBounds_toArray, List.set_cons_zero, List.set_cons_succ]
        refine wpAnyH_done (by kernel_rfl) ?_ _
        refine ⟨_, HG.out, rfl, ?_, rfl⟩
        simp only [Act.put, List.setIfInBounds_toArray, List.set_cons_zero, List.set_cons_succ]
      · go_simp
        obtain ⟨v1a, hwN, JN, zN, nN⟩ := gd_box v1 (.slice none 0 0) (.slice none 0 0) (.slice none 0 0) (.slice none 0 0)
        rw [hwN.out]
        have bv1a := Lib.hid (bv1.out.trans (zN.out.mono bv1.out.size))
        refine hK.out _ _ (SK.out _ bv1a.out) (fun hHeld => ?_)
        try simp only [Act.put, List.setIfInBounds_toArray, List.set_cons_zero, List.set_cons_succ]
        refine held_call 5 (by kernel_rfl) rfl (by rfl) (fun K hK => ?_)
        go_simp
        refine (CX.out v1a bv1a.out).mono ?_
        rintro e v2 ⟨v', rfl, A2, c2, A2p, c2p, rfl, o2, o2p, ne2, hb⟩
        have bv2 := Lib.hid (bv1a.out.trans (hb.mono bv1a.out.size))
        have hb2 := Lib.hid hb
        replace o2 := Lib.hid o2
        replace o2p := Lib.hid o2p
        replace ne2 := Lib.hid ne2
        clear hb
        go_wp2_with fail
        refine hK.out _ _ (SK.out _ bv2.out) (fun hHeld => ?_)
        try simp only [Act.put, List.setIfInBounds_toArray, List.set_cons_zero, List.set_cons_succ]
        refine held_take 6 (.agg #[.slice A1 W.sl c1, .slice A1p W.cl c1p, .slice A2 x.sl c2, .slice A2p x.cl c2p]) rfl (by kernel_rfl) (by kernel_rfl) (by kernel_rfl) (fun _ _ _ h => by obtain ⟨_, _, h, _⟩ := h; cases h) (by rfl) (by intro w' hS; go_simp) (by assumption) ?_
        try simp only [Act.put, List.setIfInBounds_toArray, List.set_cons_zero, List.set_cons_succ]
        have JD : GdAt v2 v1.heap.size (.slice none 0 0) (.slice none 0 0) (.slice none 0 0) (.slice none 0 0) := (JN.out.kept hb2.out)
        obtain ⟨e0, e1, e2, e3⟩ := JD.see
        obtain ⟨f0, f1, f2, f3⟩ := JD.live
        have HG : GP2 w2 W.sl W.ss W.cl (List.replicate W.cl 0) x.sl x.ss x.cl (List.replicate x.cl 0) ⟨v1.heap.size, A1, c1, A1p, c1p, A2, c2, A2p, c2p, gdset v2 v1.heap.size (.slice A1 W.sl c1) (.slice A1p W.cl c1p) (.slice A2 x.sl c2) (.slice A2p x.cl c2p)⟩ := by
          have := t1.out.size
          have := hb1.out.size
          have := zN.out.size
          have := hb2.out.size
          have := nN.out
          exact gp2_make JD bv2.out o1.out o1p.out ne1.out (zN.out.trans (hb2.out.mono zN.out.size)) o2.out o2p.out ne2.out (Below.refl _ _) (by omega) (by omega) (by omega) (by omega) (by omega) (by omega)
        simp only [gdset] at HG
        replace HG := Lib.hid HG
        have SS := SK.out _ (gdset_below (a := .slice A1 W.sl c1) (b := .slice A1p W.cl c1p) (c := .slice A2 x.sl c2) (d := .slice A2p x.cl c2p) bv2.out (show w2.heap.size ≤ v1.heap.size by (have := t1.out.size; have := hb1.out.size; have := zN.out.size; have := hb2.out.size; omega)))
        simp only [gdset] at SS
        refine held_call 8 (by kernel_rfl) rfl (by rfl) (fun K hK => ?_)
        go_simp
        refine hK.out _ _ SS (fun hHeld => ?_)
        try simp only [Act.put, List.setIfInBounds_toArray, List.set_cons_zero, List.set_cons_succ]
        refine wpAnyH_done (by kernel_rfl) ?_ _
        refine ⟨_, HG.out, rfl, ?_, rfl⟩
        simp only [Act.put, List.setIfInBounds_toArray, List.set_cons_zero, List.set_cons_succ]
    · go_simp
      obtain ⟨wN0, hwN, JN0, zN0, nN0⟩ := gd_box w2 (.slice none 0 0) (.slice none 0 0) (.slice none 0 0) (.slice none 0 0)
      rw [hwN.out]
      obtain ⟨v0a, hv⟩ : ∃ v, wN0.drew = v := ⟨_, rfl⟩
      have JN : Hid (GdAt v0a w2.heap.size (.slice none 0 0) (.slice none 0 0) (.slice none 0 0) (.slice none 0 0)) := Lib.hid (by rw [← hv]; exact JN0.out)
      have zN : Hid (Below w2.heap.size w2 v0a) := Lib.hid (by rw [← hv]; exact zN0.out.drew)
      have nN : Hid ((v0a).heap.size = w2.heap.size + 1) := Lib.hid (by rw [← hv]; exact nN0.out)
      have bv0a := zN
      rw [hv]
      clear hv
      refine hK.out _ _ (SK.out _ bv0a.out) (fun hHeld => ?_)
      try simp only [Act.put, List.setIfInBounds_toArray, List.set_cons_zero, List.set_cons_succ]
      refine held_call 2 (by kernel_rfl) rfl (by rfl) (fun K hK => ?_)
      go_simp
      refine (CW.out v0a bv0a.out).mono ?_
      rintro e v1 ⟨v', rfl, A1, c1, A1p, c1p, rfl, o1, o1p, ne1, hb⟩
      have bv1 := Lib.hid (bv0a.out.trans (hb.mono bv0a.out.size))
      have hb1 := Lib.hid hb
      replace o1 := Lib.hid o1
      replace o1p := Lib.hid o1p
      replace ne1 := Lib.hid ne1
      clear hb
      go_wp2_with fail
      refine hK.out _ _ (SK.out _ bv1.out) (fun hHeld => ?_)
      try simp only [Act.put, List.setIfInBounds_toArray, List.set_cons_zero, List.set_cons_succ]
      refine held_call 5 (by kernel_rfl) rfl (by rfl) (fun K hK => ?_)
      go_simp
      refine (CX.out v1 bv1.out).mono ?_
      rintro e v2 ⟨v', rfl, A2, c2, A2p, c2p, rfl, o2, o2p, ne2, hb⟩
      have bv2 := Lib.hid (bv1.out.trans (hb.mono bv1.out.size))
      have hb2 := Lib.hid hb
      replace o2 := Lib.hid o2
      replace o2p := Lib.hid o2p
      replace ne2 := Lib.hid ne2
      clear hb
      go_wp2_with fail
      refine hK.out _ _ (SK.out _ bv2.out) (fun hHeld => ?_)
      try simp only [Act.put, List.setIfInBounds_toArray, List.set_cons_zero, List.set_cons_succ]
      refine held_take 6 (.agg #[.slice A1 W.sl c1, .slice A1p W.cl c1p, .slice A2 x.sl c2, .slice A2p x.cl c2p]) rfl (by kernel_rfl) (by kernel_rfl) (by kernel_rfl) (fun _ _ _ h => by obtain ⟨_, _, h, _⟩ := h; cases h) (by rfl) (by intro w' hS; go_simp) (by assumption) ?_
      try simp only [Act.put, List.setIfInBounds_toArray, List.set_cons_zero, List.set_cons_succ]
      have JD : GdAt v2 w2.heap.size (.slice none 0 0) (.slice none 0 0) (.slice none 0 0) (.slice none 0 0) := ((JN.out.kept hb1.out).kept hb2.out)
      obtain ⟨e0, e1, e2, e3⟩ := JD.see
      obtain ⟨f0, f1, f2, f3⟩ := JD.live
      have HG : GP2 w2 W.sl W.ss W.cl (List.replicate W.cl 0) x.sl x.ss x.cl (List.replicate x.cl 0) ⟨w2.heap.size, A1, c1, A1p, c1p, A2, c2, A2p, c2p, gdset v2 w2.heap.size (.slice A1 W.sl c1) (.slice A1p W.cl c1p) (.slice A2 x.sl c2) (.slice A2p x.cl c2p)⟩ := by
        have := t1.out.size
        have := zN.out.size
        have := hb1.out.size
        have := hb2.out.size
        have := nN.out
        exact gp2_make JD bv2.out o1.out o1p.out ne1.out hb2.out o2.out o2p.out ne2.out (Below.refl _ _) (by omega) (by omega) (by omega) (by omega) (by omega) (by omega)
      simp only [gdset] at HG
      replace HG := Lib.hid HG
      have SS := SK.out _ (gdset_below (a := .slice A1 W.sl c1) (b := .slice A1p W.cl c1p) (c := .slice A2 x.sl c2) (d := .slice A2p x.cl c2p) bv2.out (show w2.heap.size ≤ w2.heap.size by (have := t1.out.size; have := zN.out.size; have := hb1.out.size; have := hb2.out.size; omega)))
      simp only [gdset] at SS
      refine held_call 8 (by kernel_rfl) rfl (by rfl) (fun K hK => ?_)
      go_simp
      refine hK.out _ _ SS (fun hHeld => ?_)
      try simp only [Act.put, List.setIfInBounds_toArray, List.set_cons_zero, List.set_cons_succ]
      refine wpAnyH_done (by kernel_rfl) ?_ _
      refine ⟨_, HG.out, rfl, ?_, rfl⟩
      simp only [Act.put, List.setIfInBounds_toArray, List.set_cons_zero, List.set_cons_succ]
  rintro ⟨D, A1, d1, A1p, d1p, A2, d2, A2p, d2p, wE⟩ hq
  have HQ := Lib.hid hq
  clear hq
  try simp only [Act.put, List.setIfInBounds_toArray, List.set_cons_zero, List.set_cons_succ]
  obtain ⟨JD, ⟨o1, o1p⟩, ⟨o2, o2p⟩, ⟨x1, x2, x3, x4, x5⟩, -, bE, hD1, hD2⟩ := HQ.out
  obtain ⟨a1, c', hv⟩ := Joins.ownsRow_form o1 hWs
  simp only [Value.slice.injEq] at hv
  obtain ⟨rfl, -, rfl⟩ := hv
  obtain ⟨a2, c', hv⟩ := Joins.ownsRow_form o2 hxs
  simp only [Value.slice.injEq] at hv
  obtain ⟨rfl, -, rfl⟩ := hv
  obtain ⟨gw, c', hv⟩ := Joins.ownsRow_form o1p hW0
  simp only [Value.slice.injEq] at hv
  obtain ⟨rfl, -, rfl⟩ := hv
  obtain ⟨gx, c', hv⟩ := Joins.ownsRow_form o2p hx0
  simp only [Value.slice.injEq] at hv
  obtain ⟨rfl, -, rfl⟩ := hv
  have HAP := Lib.hid (show a1 ≠ gw ∧ a2 ≠ gw ∧ a1 ≠ gx ∧ a2 ≠ gx ∧ gw ≠ gx from ⟨x1 _ _ rfl rfl, x2 _ _ rfl rfl, x3 _ _ rfl rfl, x4 _ _ rfl rfl, x5 _ _ rfl rfl⟩)
  have JE := Lib.hid JD
  have RO := Lib.hid (And.intro o1 (And.intro o1p (And.intro o2 o2p)))
  have BE := Lib.hid bE
  have LD := Lib.hid (And.intro hD1 hD2)
  obtain ⟨p0, -, -, -⟩ := (K1.out.kept bE).see
  obtain ⟨q0, -, -, -⟩ := (K2.out.kept bE).see
  clear JD o1 o1p o2 o2p x1 x2 x3 x4 x5 bE hD1 hD2 HQ CW CX
  go_wp2_with fail
  refine (touch_any _ _ _ _ _ _ _ _).mono ?_
  rintro e w' ⟨rfl, rfl⟩
  obtain ⟨V, hV⟩ : ∃ V, ((wE.alloc (.cells #[.slice W.sa W.sl W.sc] 23)).alloc (.cells #[.slice x.sa x.sl x.sc] 23)).alloc (.cells #[.int .i64 s] 3) = V := ⟨_, rfl⟩
  have zV : Below wE.heap.size wE V := by rw [← hV]; exact (((Below.refl _ _).alloc (Nat.le_refl _) _).alloc (by simp) _).alloc (by simp; omega) _
  have sV : V.heap.size = wE.heap.size + 3 := by rw [← hV]; simp
  have t0 : V.cell? ⟨wE.heap.size, 0, none⟩ = some (.slice W.sa W.sl W.sc) := by
    rw [← hV]
    refine cell_later ((Below.refl _ _).alloc (Nat.le_refl _) _) (cell_later ((Below.refl _ _).alloc (Nat.le_refl _) _) ?_)
    rw [World.cell?_alloc_at _ _ _ _ rfl]; rfl
  have t1 : V.cell? ⟨wE.heap.size + 1, 0, none⟩ = some (.slice x.sa x.sl x.sc) := by
    rw [← hV]
    refine cell_later ((Below.refl _ _).alloc (Nat.le_refl _) _) ?_
    rw [World.cell?_alloc_at _ _ _ _ (by simp)]; rfl
  have t2 : V.cell? ⟨wE.heap.size + 2, 0, none⟩ = some (.int .i64 s) := by
    rw [← hV, World.cell?_alloc_at _ _ _ _ (by simp)]; rfl
  have bEV : Below w2.heap.size w2 V := BE.out.trans (zV.mono BE.out.size)
  have bV := B2.out.trans (bEV.mono B2.out.size)
  have TC : TouchC wE.heap.size (wE.heap.size + 1) (wE.heap.size + 2) W x s V := ⟨t0, t1, t2, HAt.out.1.kept bV, HAt.out.2.kept bV⟩
  have IT := touch_iter wE.heap.size (wE.heap.size + 1) (wE.heap.size + 2) W x s HC.out.1 HC.out.2 hs1 hs2
  have r0 : BackI D a1 d1 gw d1p a2 d2 gx d2p W.sl W.cl x.sl x.cl W x G w [] (fun _ => False) V :=
    ⟨⟨fun h => h, K1.out.kept bEV⟩, ⟨fun h => h, K2.out.kept bEV⟩, ⟨fun h => h, K3.out.kept bEV⟩, ⟨fun h => h, K4.out.kept bEV⟩, ⟨fun h => h, JE.out.kept zV⟩,
      ⟨Joins.ownsRow_le (row_kept RO.out.1 zV) s2.out, fun h => h⟩, ⟨Joins.ownsRow_le (row_kept RO.out.2.2.1 zV) s2.out, fun h => h⟩, ⟨Joins.ownsRow_le (row_kept RO.out.2.1 zV) s2.out, fun h => h⟩, ⟨Joins.ownsRow_le (row_kept RO.out.2.2.2 zV) s2.out, fun h => h⟩, ⟨bV, fun _ h => h.elim⟩, fun _ h => h.elim⟩
  have hDl : w.heap.size + 4 ≤ D ∧ D < wE.heap.size := ⟨Nat.le_trans s2.out LD.out.1, LD.out.2⟩
  obtain ⟨KE, hKE⟩ : ∃ K, wE.heap.size = K := ⟨_, rfl⟩
  obtain ⟨B, hB⟩ : ∃ B, w.heap.size = B := ⟨_, rfl⟩
  obtain ⟨D, hK⟩ : ∃ K, D = K := ⟨_, rfl⟩
  rw [hKE] at TC IT sV hDl
  rw [hB] at hDl
  subst hK
  rw [hV]
  simp only [hKE, hB, Nat.add_assoc, Nat.reduceAdd]
  have HB := Lib.hid hB
  have HS := Lib.hid (And.intro sV hDl)
  clear hV t0 t1 t2 bV bEV zV K1 K2 K3 K4 JE RO BE LD B2 z s2 nC n4 z4 HF HC HAt hKE hB sV hDl p0 q0 hb2
  go_wp2_with fail
  refine (wpIn_wide (n := 1)).1 ?_
  refine range_lawA (gf := 47) (lb := #[.pointer (some ⟨KE, 0, none⟩), .pointer (some ⟨KE + 1, 0, none⟩), .pointer (some ⟨KE + 2, 0, none⟩)]) rfl (enters_of Try.func47 (by kernel_rfl) rfl) IT (fun _ _ => rfl) (fun _ h => h.elim)
    (fun _ _ _ _ _ _ _ _ _ _ _ => trivial) (fun W' hb' => TC.kept hb') (BackI D a1 d1 gw d1p a2 d2 gx d2p W.sl W.cl x.sl x.cl W x G w) (fun _ _ _ _ => False) (BackI.stable D a1 d1 gw d1p a2 d2 gx d2p W.sl W.cl x.sl x.cl W x G w) (fun _ _ _ _ _ _ h _ => h) r0 ?round ?done ?stop
  case stop =>
    intro D O c pre W' _ _ _ h
    exact h.elim
  case done =>
    rintro Dm O V' hDm hO hdef ⟨g1, g2, g3, g4, g5, g6, g7, g8, g9, g10, g11⟩
    rw [HB.out] at g1 g2 g3 g4 g6 g7 g8 g9
    have k0 : V'.cell? ⟨D, 0, none⟩ = some (.slice (some ⟨a1, 0, none⟩) W.sl d1) := g5.cell 0
    have k1 : V'.cell? ⟨D, 1, none⟩ = some (.slice (some ⟨gw, 0, none⟩) W.cl d1p) := g5.cell 1
    have k2 : V'.cell? ⟨D, 2, none⟩ = some (.slice (some ⟨a2, 0, none⟩) x.sl d2) := g5.cell 2
    have k3 : V'.cell? ⟨D, 3, none⟩ = some (.slice (some ⟨gx, 0, none⟩) x.cl d2p) := g5.cell 3
    have e0 : V'.cell? ⟨B + 3, 0, none⟩ = some (.slice none 0 0) := g4.cell 0
    have e1 : V'.cell? ⟨B + 3, 1, none⟩ = some (.slice none 0 0) := g4.cell 1
    have e2 : V'.cell? ⟨B + 3, 2, none⟩ = some (.slice none 0 0) := g4.cell 2
    have e3 : V'.cell? ⟨B + 3, 3, none⟩ = some (.slice none 0 0) := g4.cell 3
    have f0 := g4.frozen 0
    have f1 := g4.frozen 1
    have f2 := g4.frozen 2
    have f3 := g4.frozen 3
    have q4 := (((g4.set 0 (.slice (some ⟨a1, 0, none⟩) W.sl d1)).set 1 (.slice (some ⟨gw, 0, none⟩) W.cl d1p)).set 2 (.slice (some ⟨a2, 0, none⟩) x.sl d2)).set 3 (.slice (some ⟨gx, 0, none⟩) x.cl d2p)
    have oth : ∀ {t : TypeId} {g n c : Nat} {zs : List Int}, RowO O V' (B + 4) t g n c zs → RowO O ((((V'.setCell ⟨B + 3, 0, none⟩ (.slice (some ⟨a1, 0, none⟩) W.sl d1)).setCell ⟨B + 3, 1, none⟩ (.slice (some ⟨gw, 0, none⟩) W.cl d1p)).setCell ⟨B + 3, 2, none⟩ (.slice (some ⟨a2, 0, none⟩) x.sl d2)).setCell ⟨B + 3, 3, none⟩ (.slice (some ⟨gx, 0, none⟩) x.cl d2p)) (B + 4) t g n c zs := by
      intro t g n c zs h
      have hg := h.lt.1
      exact (((h.other (p := ⟨B + 3, 0, none⟩) _ (by simp only; omega)).other (p := ⟨B + 3, 1, none⟩) _ (by simp only; omega)).other (p := ⟨B + 3, 2, none⟩) _ (by simp only; omega)).other (p := ⟨B + 3, 3, none⟩) _ (by simp only; omega)
    have hDB : Dm ≠ B + 3 := fun e => g4.1 (e ▸ hO)
    have hdef2 : ((((V'.setCell ⟨B + 3, 0, none⟩ (.slice (some ⟨a1, 0, none⟩) W.sl d1)).setCell ⟨B + 3, 1, none⟩ (.slice (some ⟨gw, 0, none⟩) W.cl d1p)).setCell ⟨B + 3, 2, none⟩ (.slice (some ⟨a2, 0, none⟩) x.sl d2)).setCell ⟨B + 3, 3, none⟩ (.slice (some ⟨gx, 0, none⟩) x.cl d2p)).heap[Dm]? = some (.deferred (some [])) := (Below.heap_setCell _ ⟨B + 3, 3, none⟩ _ Dm hDB).trans ((Below.heap_setCell _ ⟨B + 3, 2, none⟩ _ Dm hDB).trans ((Below.heap_setCell _ ⟨B + 3, 1, none⟩ _ Dm hDB).trans ((Below.heap_setCell V' ⟨B + 3, 0, none⟩ _ Dm hDB).trans hdef)))
    have qB : Below w.heap.size w ((((V'.setCell ⟨B + 3, 0, none⟩ (.slice (some ⟨a1, 0, none⟩) W.sl d1)).setCell ⟨B + 3, 1, none⟩ (.slice (some ⟨gw, 0, none⟩) W.cl d1p)).setCell ⟨B + 3, 2, none⟩ (.slice (some ⟨a2, 0, none⟩) x.sl d2)).setCell ⟨B + 3, 3, none⟩ (.slice (some ⟨gx, 0, none⟩) x.cl d2p)) := (((g10.1.setCell (p := ⟨B + 3, 0, none⟩) (by rw [HB.out]; simp) _).setCell (p := ⟨B + 3, 1, none⟩) (by rw [HB.out]; simp) _).setCell (p := ⟨B + 3, 2, none⟩) (by rw [HB.out]; simp) _).setCell (p := ⟨B + 3, 3, none⟩) (by rw [HB.out]; simp) _
    have st := ItStep.putObj ((((V'.setCell ⟨B + 3, 0, none⟩ (.slice (some ⟨a1, 0, none⟩) W.sl d1)).setCell ⟨B + 3, 1, none⟩ (.slice (some ⟨gw, 0, none⟩) W.cl d1p)).setCell ⟨B + 3, 2, none⟩ (.slice (some ⟨a2, 0, none⟩) x.sl d2)).setCell ⟨B + 3, 3, none⟩ (.slice (some ⟨gx, 0, none⟩) x.cl d2p)) Dm (.deferred none) hO
    have P := Lib.hid (show OkB w W.sl W.ss W.cl (runP W.cl (backV1 G.cs x.cs) (touchL W.ss x.ss s)) x.sl x.ss x.cl (runP x.cl (backV2 G.cs W.cs) (touchL W.ss x.ss s)) (.returned (.tuple #[.agg #[.slice (some ⟨a1, 0, none⟩) W.sl d1, .slice (some ⟨gw, 0, none⟩) W.cl d1p, .slice (some ⟨a2, 0, none⟩) x.sl d2, .slice (some ⟨gx, 0, none⟩) x.cl d2p], .int .i64 0])) (((((V'.setCell ⟨B + 3, 0, none⟩ (.slice (some ⟨a1, 0, none⟩) W.sl d1)).setCell ⟨B + 3, 1, none⟩ (.slice (some ⟨gw, 0, none⟩) W.cl d1p)).setCell ⟨B + 3, 2, none⟩ (.slice (some ⟨a2, 0, none⟩) x.sl d2)).setCell ⟨B + 3, 3, none⟩ (.slice (some ⟨gx, 0, none⟩) x.cl d2p)).putObj Dm (.deferred none)) from
      ⟨_, _, _, _, _, _, _, _, rfl, row_ints ((oth g6).stable st).1 (by omega) fss.out.1, row_ints ((oth g8).stable st).1 (by omega) (runP_fits _ _ _), row_ints ((oth g7).stable st).1 (by omega) fss.out.2, row_ints ((oth g9).stable st).1 (by omega) (runP_fits _ _ _), below_putObj qB Dm _ (by have := HS.out; have := HB.out; omega)⟩)
    have r0 := Lib.hid ((q4.stable st).cell 0)
    have r1 := Lib.hid ((q4.stable st).cell 1)
    have r2 := Lib.hid ((q4.stable st).cell 2)
    have r3 := Lib.hid ((q4.stable st).cell 3)
    have HD := Lib.hid hdef2
    clear g1 g2 g3 g4 g5 g6 g7 g8 g9 g10 g11 q4 oth qB hdef hdef2 st hDB
    go_wp2_with fail
    refine leaves_mark HD.out ⟨_, ?_, P.out⟩
    have r0' := r0.out
    have r1' := r1.out
    have r2' := r2.out
    have r3' := r3.out
    simp at r0' r1' r2' r3'
    simp [results, Try.results20, go_sem, r0', r1', r2', r3']
  case round =>
    rintro l pre ⟨a, b, d⟩ ⟨⟩ rest O Wa V2 hxs hsz hG _
    obtain ⟨ta, tb, td⟩ := TI.out (a, b, d) (by rw [hxs]; simp)
    simp only at ta tb td
    have HSZ := Lib.hid hsz
    have HG := Lib.hid hG
    rw [show triV (a, b, d) () = #[.agg #[.int .i64 (a : Int), .int .i64 (b : Int), .int .i64 (d : Int)]] from rfl]
    clear hxs hsz hG
    gi_wp2
    refine ⟨_, rfl, ?_⟩
    rw [← HSZ.out]
    obtain ⟨V3, hV3⟩ : ∃ V, V2.alloc (.cells #[.int .i64 (a : Int), .int .i64 (b : Int), .int .i64 (d : Int)] 69) = V := ⟨_, rfl⟩
    obtain ⟨P, hP⟩ : ∃ P, V2.heap.size = P := ⟨_, rfl⟩
    have z3 : Below V2.heap.size V2 V3 := by rw [← hV3]; exact (Below.refl _ _).alloc (Nat.le_refl _) _
    have hPo : ¬ O P := fun h => by have := HG.out.2.2.2.2.2.2.2.2.2.2 P h; omega
    have pP : Has O V3 P #[.int .i64 (a : Int), .int .i64 (b : Int), .int .i64 (d : Int)] 69 := by rw [← hV3, ← hP]; exact Has.made V2 _ _ (by rw [hP]; exact hPo)
    rw [hV3]
    simp only [hP]
    obtain ⟨V4, hV4⟩ : ∃ V, V3.drew = V := ⟨_, rfl⟩
    have z4 : Below V3.heap.size V3 V4 := by rw [← hV4]; exact (Below.refl _ _).drew
    obtain ⟨g1, g2, g3, g4, g5, g6, g7, g8, g9, g10, g11⟩ := HG.out
    have z24 := z3.trans (z4.mono z3.size)
    have q1 := g1.below z24
    have q2 := g2.below z24
    have q3 := g3.below z24
    have q4 := g4.below z24
    have q5 := g5.below z24
    have q6 := g6.below z24
    have q7 := g7.below z24
    have q8 := g8.below z24
    have q9 := g9.below z24
    have q10 : Below w.heap.size w V4 := g10.1.trans (z24.mono g10.1.size)
    have q11 : ∀ k, O k → k < V4.heap.size := fun k hk => Nat.lt_of_lt_of_le (g11 k hk) z24.size
    have b3 : Below w.heap.size w V3 := g10.1.trans (z3.mono g10.1.size)
    have c23 : V3.cell? ⟨w.heap.size + 2, 1, none⟩ = some (.slice G.ca G.cl G.cc) := (g3.below z3).cell 1
    rw [HB.out] at q1 q2 q3 q4 q6 q7 q8 q9 c23
    rw [HGC.out] at c23
    have r24 : RdStep (fun k => False ∨ O k) V2 V4 := RdStep.of_below z24
    obtain ⟨y1, hy1⟩ : ∃ y, (runP W.cl (backV1 G.cs x.cs) pre).getD b 0 = y := ⟨_, rfl⟩
    obtain ⟨y2, hy2⟩ : ∃ y, (runP x.cl (backV2 G.cs W.cs) pre).getD d 0 = y := ⟨_, rfl⟩
    obtain ⟨gv, hgv⟩ : ∃ y, G.cs.getD a 0 = y := ⟨_, rfl⟩
    obtain ⟨wv, hwv⟩ : ∃ y, W.cs.getD b 0 = y := ⟨_, rfl⟩
    obtain ⟨xv, hxv⟩ : ∃ y, x.cs.getD d 0 = y := ⟨_, rfl⟩
    have yb1 := (runP_fits W.cl (backV1 G.cs x.cs) pre).getD b
    have yb2 := (runP_fits x.cl (backV2 G.cs W.cs) pre).getD d
    have gb := fg.out.getD a
    have wb := fw.out.getD b
    have xb := fx.out.getD d
    have c25 := KG.out V3 b3 a ta
    rw [hy1] at yb1
    rw [hy2] at yb2
    rw [hgv] at gb c25
    rw [hwv] at wb
    rw [hxv] at xb
    have pb1 := mulF_bounds gv xv
    have pb2 := mulF_bounds gv wv
    have MM1 := fun V => mul_any gv xv V gb.1 gb.2 xb.1 xb.2
    have MM2 := fun V => mul_any gv wv V gb.1 gb.2 wb.1 wb.2
    obtain ⟨p1, hp1⟩ : ∃ p, mulF gv xv = p := ⟨_, rfl⟩
    obtain ⟨p2, hp2⟩ : ∃ p, mulF gv wv = p := ⟨_, rfl⟩
    simp only [hp1] at MM1
    simp only [hp2] at MM2
    rw [hp1] at pb1
    rw [hp2] at pb2
    have AA1 := fun V => add_any y1 p1 V yb1.1 yb1.2 pb1.1 pb1.2
    have AA2 := fun V => add_any y2 p2 V yb2.1 yb2.2 pb2.1 pb2.2
    obtain ⟨q1v, hq1⟩ : ∃ q, sat (y1 + p1) = q := ⟨_, rfl⟩
    obtain ⟨q2v, hq2⟩ : ∃ q, sat (y2 + p2) = q := ⟨_, rfl⟩
    simp only [hq1] at AA1
    simp only [hq2] at AA2
    have MUL1 := Lib.hid MM1
    have MUL2 := Lib.hid MM2
    have ADD1 := Lib.hid AA1
    have ADD2 := Lib.hid AA2
    have ck1 := q8.cell tb
    rw [hy1] at ck1
    obtain ⟨cg1, fg1⟩ := ck1
    obtain ⟨V6, hV6⟩ : ∃ V, (V4.setCell ⟨gw, b, none⟩ (.int .i64 q1v)).drew = V := ⟨_, rfl⟩
    have hV6d : V4.drew.setCell ⟨gw, b, none⟩ (.int .i64 q1v) = V6 := (show V4.drew.setCell ⟨gw, b, none⟩ (.int .i64 q1v) = (V4.setCell ⟨gw, b, none⟩ (.int .i64 q1v)).drew from rfl).trans hV6
    obtain ⟨V8, hV8⟩ : ∃ V, (V6.setCell ⟨gx, d, none⟩ (.int .i64 q2v)).drew = V := ⟨_, rfl⟩
    have hV8d : V6.drew.setCell ⟨gx, d, none⟩ (.int .i64 q2v) = V8 := (show V6.drew.setCell ⟨gx, d, none⟩ (.int .i64 q2v) = (V6.setCell ⟨gx, d, none⟩ (.int .i64 q2v)).drew from rfl).trans hV8
    have hwO : ¬ O gw := q8.2
    have hxO : ¬ O gx := q9.2
    have hwB : B + 4 ≤ gw := q8.lt.1
    have hxB : B + 4 ≤ gx := q9.lt.1
    have hKw : D ≠ gw := q5.notRow q8 (by decide)
    have hKx : D ≠ gx := q5.notRow q9 (by decide)
    obtain ⟨ap1, ap2, ap3, ap4, ap5⟩ := HAP.out
    have z46 : Below w.heap.size w V6 := by rw [← hV6d]; exact ((q10.trans ((Below.refl _ _).drew.mono q10.size))).setCell (p := ⟨gw, b, none⟩) (by rw [HB.out]; simp only; omega) _
    have z48 : Below w.heap.size w V8 := by rw [← hV8d]; exact ((z46.trans ((Below.refl _ _).drew.mono z46.size))).setCell (p := ⟨gx, d, none⟩) (by rw [HB.out]; simp only; omega) _
    have up : ∀ {k : Nat} {cur : Array Value} {t : TypeId}, Has O V4 k cur t → k ≠ gw → Has O V6 k cur t := fun h hk => by rw [← hV6d]; exact Has.other (W := V4.drew) h _ hk
    have up2 : ∀ {k : Nat} {cur : Array Value} {t : TypeId}, Has O V6 k cur t → k ≠ gx → Has O V8 k cur t := fun h hk => by rw [← hV8d]; exact Has.other (W := V6.drew) h _ hk
    have ur : ∀ {t : TypeId} {g n c : Nat} {zs : List Int}, RowO O V4 (B + 4) t g n c zs → g ≠ gw → RowO O V6 (B + 4) t g n c zs := fun h hk => by rw [← hV6d]; exact RowO.other (V := V4.drew) h _ hk
    have ur2 : ∀ {t : TypeId} {g n c : Nat} {zs : List Int}, RowO O V6 (B + 4) t g n c zs → g ≠ gx → RowO O V8 (B + 4) t g n c zs := fun h hk => by rw [← hV8d]; exact RowO.other (V := V6.drew) h _ hk
    have u1 := up q1 (by omega)
    have u2 := up q2 (by omega)
    have u3 := up q3 (by omega)
    have u4 := up q4 (by omega)
    have u5 := up q5 hKw
    have u6 := ur q6 ap1
    have u7 := ur q7 ap2
    have u8 : RowO O V6 (B + 4) 56 gw W.cl d1p (runP W.cl (backV1 G.cs x.cs) (pre ++ [(a, b, d)])) := by
      have : runP W.cl (backV1 G.cs x.cs) (pre ++ [(a, b, d)]) = (runP W.cl (backV1 G.cs x.cs) pre).set b q1v := by
        rw [runP_snoc]
        show addAt (runP W.cl (backV1 G.cs x.cs) pre) b (mulF (G.cs.getD a 0) (x.cs.getD d 0)) = _
        unfold addAt
        rw [hy1, hgv, hxv, hp1, hq1]
      rw [this, ← hV6d]
      exact RowO.set (V := V4.drew) q8 b q1v
    have u9 := ur q9 ap5.symm
    have ck2 := u9.cell td
    rw [hy2] at ck2
    obtain ⟨cg2, fg2⟩ := ck2
    have v9 : RowO O V8 (B + 4) 56 gx x.cl d2p (runP x.cl (backV2 G.cs W.cs) (pre ++ [(a, b, d)])) := by
      have : runP x.cl (backV2 G.cs W.cs) (pre ++ [(a, b, d)]) = (runP x.cl (backV2 G.cs W.cs) pre).set d q2v := by
        rw [runP_snoc]
        show addAt (runP x.cl (backV2 G.cs W.cs) pre) d (mulF (G.cs.getD a 0) (W.cs.getD b 0)) = _
        unfold addAt
        rw [hy2, hgv, hwv, hp2, hq2]
      rw [this, ← hV8d]
      exact RowO.set (V := V6.drew) u9 d q2v
    have r46 : RdStep (fun k => False ∨ O k) V4 V6 := by
      rw [← hV6d]
      exact (RdStep.drew _ V4).trans (RdStep.setCell V4.drew ⟨gw, b, none⟩ _ (fun h => h.elim id hwO))
    have r68 : RdStep (fun k => False ∨ O k) V6 V8 := by
      rw [← hV8d]
      exact (RdStep.drew _ V6).trans (RdStep.setCell V6.drew ⟨gx, d, none⟩ _ (fun h => h.elim id hxO))
    have fin : RdStep (fun k => False ∨ O k) V2 V8 ∧ BackI D a1 d1 gw d1p a2 d2 gx d2p W.sl W.cl x.sl x.cl W x G w (pre ++ [(a, b, d)]) O V8 := by
      refine ⟨(r24.trans r46).trans r68, ?_⟩
      unfold BackI
      rw [HB.out]
      exact ⟨up2 u1 (by omega), up2 u2 (by omega), up2 u3 (by omega), up2 u4 (by omega), up2 u5 hKx, ur2 u6 ap3, ur2 u7 ap4, ur2 u8 ap5, v9, ⟨z48, g10.2⟩, fun k hk => Nat.lt_of_lt_of_le (q11 k hk) (Nat.le_trans r46.size r68.size)⟩
    have F := Lib.hid fin
    have SA : ∀ V', Has O V' (B + 1) #[.slice x.sa x.sl x.sc, .slice x.ca x.cl x.cc] 34 → Has O V' D #[.slice (some ⟨a1, 0, none⟩) W.sl d1, .slice (some ⟨gw, 0, none⟩) W.cl d1p, .slice (some ⟨a2, 0, none⟩) x.sl d2, .slice (some ⟨gx, 0, none⟩) x.cl d2p] 49 → Below w.heap.size w V' → V'.cell? ⟨D, 1, none⟩ = some (.slice (some ⟨gw, 0, none⟩) W.cl d1p) ∧ V'.cell? ⟨B + 1, 1, none⟩ = some (.slice (some ⟨xcb, xco, none⟩) x.cl x.cc) ∧ V'.cell? ⟨xcb, xco + d, none⟩ = some (.int .i64 xv) := by
      intro V' h2 h5 hb
      have a2 : V'.cell? ⟨B + 1, 1, none⟩ = some (.slice x.ca x.cl x.cc) := h2.cell 1
      rw [HXC.out] at a2
      have a4 := KX.out V' hb d td
      rw [hxv] at a4
      exact ⟨h5.cell 1, a2, a4⟩
    have SB : ∀ V', Has O V' B #[.slice W.sa W.sl W.sc, .slice W.ca W.cl W.cc] 34 → Has O V' D #[.slice (some ⟨a1, 0, none⟩) W.sl d1, .slice (some ⟨gw, 0, none⟩) W.cl d1p, .slice (some ⟨a2, 0, none⟩) x.sl d2, .slice (some ⟨gx, 0, none⟩) x.cl d2p] 49 → Below w.heap.size w V' → V'.cell? ⟨D, 3, none⟩ = some (.slice (some ⟨gx, 0, none⟩) x.cl d2p) ∧ V'.cell? ⟨B, 1, none⟩ = some (.slice (some ⟨wcb, wco, none⟩) W.cl W.cc) ∧ V'.cell? ⟨wcb, wco + b, none⟩ = some (.int .i64 wv) := by
      intro V' h2 h5 hb
      have a2 : V'.cell? ⟨B, 1, none⟩ = some (.slice W.ca W.cl W.cc) := h2.cell 1
      rw [HWC.out] at a2
      have a4 := KW.out V' hb b tb
      rw [hwv] at a4
      exact ⟨h5.cell 3, a2, a4⟩
    have SP : Hid (V3.cell? ⟨B + 2, 1, none⟩ = some (.slice (some ⟨gcb, gco, none⟩) G.cl G.cc) ∧ V3.cell? ⟨P, 0, none⟩ = some (.int .i64 (a : Int)) ∧ V3.cell? ⟨gcb, gco + a, none⟩ = some (.int .i64 gv) ∧ V3.cell? ⟨P, 1, none⟩ = some (.int .i64 (b : Int)) ∧ V3.cell? ⟨P, 2, none⟩ = some (.int .i64 (d : Int))) := Lib.hid ⟨c23, pP.cell 0, c25, pP.cell 1, pP.cell 2⟩
    have SA4 := Lib.hid (SA V4 q2 q5 q10)
    have SA6 := Lib.hid (SA V6 u2 u5 z46)
    have SB6 := Lib.hid (SB V6 u1 u5 z46)
    have SB8 := Lib.hid (SB V8 (up2 u1 (by omega)) (up2 u5 hKx) z48)
    have HV4 := Lib.hid hV4
    have HV6 := Lib.hid hV6
    have HV8 := Lib.hid hV8
    clear g1 g2 g3 g4 g5 g6 g7 g8 g9 g10 g11 q1 q2 q3 q4 q5 q6 q7 q8 q9 q10 q11 u1 u2 u3 u4 u5 u6 u7 u8 u9 v9 r24 r46 r68 z46 z48 z24 z3 z4 fin SA SB hV3 hP hPo pP hy1 hy2 hgv hwv hxv hp1 hp2 hq1 hq2 yb1 yb2 gb wb xb pb1 pb2 AA1 AA2 MM1 MM2 hwO hxO hwB hxB hKw hKx hV4 hV6 hV6d hV8 hV8d up up2 ur ur2 ap1 ap2 ap3 ap4 ap5 b3 c23 c25
    gi_wp2_with fail
    refine round_cutQ (ι := Unit) (fun _ => True) (fun _ act => (((((((((((((act.put (some 53) (.pointer (some ⟨B + 2, 1, none⟩))).put (some 54) (.slice (some ⟨gcb, gco, none⟩) G.cl G.cc)).put (some 55) (.pointer (some ⟨P, 0, none⟩))).put (some 56) (.int .i64 (a : Int))).put (some 57) (.pointer (some ⟨gcb, gco + a, none⟩))).put (some 58) (.int .i64 gv)).put (some 59) (.pointer (some ⟨P, 1, none⟩))).put (some 60) (.int .i64 (b : Int))).put (some 61) (.pointer (some ⟨P, 2, none⟩))).put (some 62) (.int .i64 (d : Int))).put (some 14) (.int .i64 gv)).put (some 15) (.int .i64 (b : Int))).put (some 16) (.int .i64 (d : Int)))) (fun _ => V4) (fun V' => V'.cell? ⟨B + 2, 1, none⟩ = some (.slice (some ⟨gcb, gco, none⟩) G.cl G.cc) ∧ V'.cell? ⟨P, 0, none⟩ = some (.int .i64 (a : Int)) ∧ V'.cell? ⟨gcb, gco + a, none⟩ = some (.int .i64 gv) ∧ V'.cell? ⟨P, 1, none⟩ = some (.int .i64 (b : Int)) ∧ V'.cell? ⟨P, 2, none⟩ = some (.int .i64 (d : Int))) (by kernel_rfl) (by kernel_rfl) SP.out (fun hHeld => ?_) (fun _ _ => ?_)
    · refine held_take 0 (.pointer (some ⟨B + 2, 1, none⟩)) rfl (by kernel_rfl) (by kernel_rfl) (by kernel_rfl) (fun _ _ _ h => by obtain ⟨_, _, h, _⟩ := h; cases h) (by rfl) (by intro w' hS; go_simp) (by assumption) ?_
      try simp only [Act.put, List.setIfInBounds_toArray, List.set_cons_zero, List.set_cons_succ]
      refine held_take 1 (.slice (some ⟨gcb, gco, none⟩) G.cl G.cc) rfl (by kernel_rfl) (by kernel_rfl) (by kernel_rfl) (fun _ _ _ h => by obtain ⟨_, _, h, _⟩ := h; cases h) (by rfl) (by intro w' hS; go_simp) (by assumption) ?_
      try simp only [Act.put, List.setIfInBounds_toArray, List.set_cons_zero, List.set_cons_succ]
      refine held_take 2 (.pointer (some ⟨P, 0, none⟩)) rfl (by kernel_rfl) (by kernel_rfl) (by kernel_rfl) (fun _ _ _ h => by obtain ⟨_, _, h, _⟩ := h; cases h) (by rfl) (by intro w' hS; go_simp) (by assumption) ?_
      try simp only [Act.put, List.setIfInBounds_toArray, List.set_cons_zero, List.set_cons_succ]
      refine held_take 3 (.int .i64 (a : Int)) rfl (by kernel_rfl) (by kernel_rfl) (by kernel_rfl) (fun _ _ _ h => by obtain ⟨_, _, h, _⟩ := h; cases h) (by rfl) (by intro w' hS; go_simp) (by assumption) ?_
      try simp only [Act.put, List.setIfInBounds_toArray, List.set_cons_zero, List.set_cons_succ]
      refine held_take 4 (.pointer (some ⟨gcb, gco + a, none⟩)) rfl (by kernel_rfl) (by kernel_rfl) (by kernel_rfl) (fun _ _ _ h => by obtain ⟨_, _, h, _⟩ := h; cases h) (by rfl) (by intro w' hS; go_simp) (by assumption) ?_
      try simp only [Act.put, List.setIfInBounds_toArray, List.set_cons_zero, List.set_cons_succ]
      refine held_take 5 (.int .i64 gv) rfl (by kernel_rfl) (by kernel_rfl) (by kernel_rfl) (fun _ _ _ h => by obtain ⟨_, _, h, _⟩ := h; cases h) (by rfl) (by intro w' hS; go_simp) (by assumption) ?_
      try simp only [Act.put, List.setIfInBounds_toArray, List.set_cons_zero, List.set_cons_succ]
      refine held_take 6 (.pointer (some ⟨P, 1, none⟩)) rfl (by kernel_rfl) (by kernel_rfl) (by kernel_rfl) (fun _ _ _ h => by obtain ⟨_, _, h, _⟩ := h; cases h) (by rfl) (by intro w' hS; go_simp) (by assumption) ?_
      try simp only [Act.put, List.setIfInBounds_toArray, List.set_cons_zero, List.set_cons_succ]
      refine held_take 7 (.int .i64 (b : Int)) rfl (by kernel_rfl) (by kernel_rfl) (by kernel_rfl) (fun _ _ _ h => by obtain ⟨_, _, h, _⟩ := h; cases h) (by rfl) (by intro w' hS; go_simp) (by assumption) ?_
      try simp only [Act.put, List.setIfInBounds_toArray, List.set_cons_zero, List.set_cons_succ]
      refine held_take 8 (.pointer (some ⟨P, 2, none⟩)) rfl (by kernel_rfl) (by kernel_rfl) (by kernel_rfl) (fun _ _ _ h => by obtain ⟨_, _, h, _⟩ := h; cases h) (by rfl) (by intro w' hS; go_simp) (by assumption) ?_
      try simp only [Act.put, List.setIfInBounds_toArray, List.set_cons_zero, List.set_cons_succ]
      refine held_take 9 (.int .i64 (d : Int)) rfl (by kernel_rfl) (by kernel_rfl) (by kernel_rfl) (fun _ _ _ h => by obtain ⟨_, _, h, _⟩ := h; cases h) (by rfl) (by intro w' hS; go_simp) (by assumption) ?_
      try simp only [Act.put, List.setIfInBounds_toArray, List.set_cons_zero, List.set_cons_succ]
      refine held_take 10 (.int .i64 gv) rfl (by kernel_rfl) (by kernel_rfl) (by kernel_rfl) (fun _ _ _ h => by obtain ⟨_, _, h, _⟩ := h; cases h) (by rfl) (by intro w' hS; go_simp) (by assumption) ?_
      try simp only [Act.put, List.setIfInBounds_toArray, List.set_cons_zero, List.set_cons_succ]
      refine held_take 11 (.int .i64 (b : Int)) rfl (by kernel_rfl) (by kernel_rfl) (by kernel_rfl) (fun _ _ _ h => by obtain ⟨_, _, h, _⟩ := h; cases h) (by rfl) (by intro w' hS; go_simp) (by assumption) ?_
      try simp only [Act.put, List.setIfInBounds_toArray, List.set_cons_zero, List.set_cons_succ]
      refine held_take 12 (.int .i64 (d : Int)) rfl (by kernel_rfl) (by kernel_rfl) (by kernel_rfl) (fun _ _ _ h => by obtain ⟨_, _, h, _⟩ := h; cases h) (by rfl) (by intro w' hS; go_simp) (by assumption) ?_
      try simp only [Act.put, List.setIfInBounds_toArray, List.set_cons_zero, List.set_cons_succ]
      refine wpAnyH_done (by kernel_rfl) ?_ _
      refine ⟨(), trivial, rfl, ?_, HV4.out⟩
      simp only [Act.put, List.setIfInBounds_toArray, List.set_cons_zero, List.set_cons_succ]
    gi_wp2_with fail
    refine round_cutQ (ι := Unit) (fun _ => True) (fun _ act => (((((((((((((((((((act.put (some 63) (.pointer (some ⟨D, 0, none⟩))).put (some 64) (.pointer (some ⟨D, 1, none⟩))).put (some 65) (.slice (some ⟨gw, 0, none⟩) W.cl d1p)).put (some 66) (.int .i64 (b : Int))).put (some 67) (.pointer (some ⟨D, 0, none⟩))).put (some 68) (.pointer (some ⟨D, 1, none⟩))).put (some 69) (.slice (some ⟨gw, 0, none⟩) W.cl d1p)).put (some 70) (.int .i64 (b : Int))).put (some 71) (.pointer (some ⟨gw, b, none⟩))).put (some 72) (.int .i64 y1)).put (some 73) (.int .i64 gv)).put (some 74) (.pointer (some ⟨B + 1, 1, none⟩))).put (some 75) (.slice (some ⟨xcb, xco, none⟩) x.cl x.cc)).put (some 76) (.int .i64 (d : Int))).put (some 77) (.pointer (some ⟨xcb, xco + d, none⟩))).put (some 78) (.int .i64 xv)).put (some 79) (.int .i64 p1)).put (some 80) (.int .i64 q1v)).put (some 81) (.pointer (some ⟨gw, b, none⟩)))) (fun _ => V6) (fun V' => V'.cell? ⟨D, 1, none⟩ = some (.slice (some ⟨gw, 0, none⟩) W.cl d1p) ∧ V'.cell? ⟨B + 1, 1, none⟩ = some (.slice (some ⟨xcb, xco, none⟩) x.cl x.cc) ∧ V'.cell? ⟨xcb, xco + d, none⟩ = some (.int .i64 xv)) (by kernel_rfl) (by kernel_rfl) SA4.out (fun hHeld => ?_) (fun _ _ => ?_)
    · refine held_take 0 (.pointer (some ⟨D, 0, none⟩)) rfl (by kernel_rfl) (by kernel_rfl) (by kernel_rfl) (fun _ _ _ h => by obtain ⟨_, _, h, _⟩ := h; cases h) (by rfl) (by intro w' hS; go_simp) (by assumption) ?_
      try simp only [Act.put, List.setIfInBounds_toArray, List.set_cons_zero, List.set_cons_succ]
      refine held_take 1 (.pointer (some ⟨D, 1, none⟩)) rfl (by kernel_rfl) (by kernel_rfl) (by kernel_rfl) (fun _ _ _ h => by obtain ⟨_, _, h, _⟩ := h; cases h) (by rfl) (by intro w' hS; go_simp) (by assumption) ?_
      try simp only [Act.put, List.setIfInBounds_toArray, List.set_cons_zero, List.set_cons_succ]
      refine held_take 2 (.slice (some ⟨gw, 0, none⟩) W.cl d1p) rfl (by kernel_rfl) (by kernel_rfl) (by kernel_rfl) (fun _ _ _ h => by obtain ⟨_, _, h, _⟩ := h; cases h) (by rfl) (by intro w' hS; go_simp) (by assumption) ?_
      try simp only [Act.put, List.setIfInBounds_toArray, List.set_cons_zero, List.set_cons_succ]
      refine held_take 3 (.int .i64 (b : Int)) rfl (by kernel_rfl) (by kernel_rfl) (by kernel_rfl) (fun _ _ _ h => by obtain ⟨_, _, h, _⟩ := h; cases h) (by rfl) (by intro w' hS; go_simp) (by assumption) ?_
      try simp only [Act.put, List.setIfInBounds_toArray, List.set_cons_zero, List.set_cons_succ]
      refine held_take 4 (.pointer (some ⟨D, 0, none⟩)) rfl (by kernel_rfl) (by kernel_rfl) (by kernel_rfl) (fun _ _ _ h => by obtain ⟨_, _, h, _⟩ := h; cases h) (by rfl) (by intro w' hS; go_simp) (by assumption) ?_
      try simp only [Act.put, List.setIfInBounds_toArray, List.set_cons_zero, List.set_cons_succ]
      refine held_take 5 (.pointer (some ⟨D, 1, none⟩)) rfl (by kernel_rfl) (by kernel_rfl) (by kernel_rfl) (fun _ _ _ h => by obtain ⟨_, _, h, _⟩ := h; cases h) (by rfl) (by intro w' hS; go_simp) (by assumption) ?_
      try simp only [Act.put, List.setIfInBounds_toArray, List.set_cons_zero, List.set_cons_succ]
      refine held_take 6 (.slice (some ⟨gw, 0, none⟩) W.cl d1p) rfl (by kernel_rfl) (by kernel_rfl) (by kernel_rfl) (fun _ _ _ h => by obtain ⟨_, _, h, _⟩ := h; cases h) (by rfl) (by intro w' hS; go_simp) (by assumption) ?_
      try simp only [Act.put, List.setIfInBounds_toArray, List.set_cons_zero, List.set_cons_succ]
      refine held_take 7 (.int .i64 (b : Int)) rfl (by kernel_rfl) (by kernel_rfl) (by kernel_rfl) (fun _ _ _ h => by obtain ⟨_, _, h, _⟩ := h; cases h) (by rfl) (by intro w' hS; go_simp) (by assumption) ?_
      try simp only [Act.put, List.setIfInBounds_toArray, List.set_cons_zero, List.set_cons_succ]
      refine held_take 8 (.pointer (some ⟨gw, b, none⟩)) rfl (by kernel_rfl) (by kernel_rfl) (by kernel_rfl) (fun _ _ _ h => by obtain ⟨_, _, h, _⟩ := h; cases h) (by rfl) (by intro w' hS; go_simp) (by assumption) ?_
      try simp only [Act.put, List.setIfInBounds_toArray, List.set_cons_zero, List.set_cons_succ]
      refine held_take 10 (.int .i64 gv) rfl (by kernel_rfl) (by kernel_rfl) (by kernel_rfl) (fun _ _ _ h => by obtain ⟨_, _, h, _⟩ := h; cases h) (by rfl) (by intro w' hS; go_simp) (by assumption) ?_
      try simp only [Act.put, List.setIfInBounds_toArray, List.set_cons_zero, List.set_cons_succ]
      refine held_take 11 (.pointer (some ⟨B + 1, 1, none⟩)) rfl (by kernel_rfl) (by kernel_rfl) (by kernel_rfl) (fun _ _ _ h => by obtain ⟨_, _, h, _⟩ := h; cases h) (by rfl) (by intro w' hS; go_simp) (by assumption) ?_
      try simp only [Act.put, List.setIfInBounds_toArray, List.set_cons_zero, List.set_cons_succ]
      refine held_take 12 (.slice (some ⟨xcb, xco, none⟩) x.cl x.cc) rfl (by kernel_rfl) (by kernel_rfl) (by kernel_rfl) (fun _ _ _ h => by obtain ⟨_, _, h, _⟩ := h; cases h) (by rfl) (by intro w' hS; go_simp) (by assumption) ?_
      try simp only [Act.put, List.setIfInBounds_toArray, List.set_cons_zero, List.set_cons_succ]
      refine held_take 13 (.int .i64 (d : Int)) rfl (by kernel_rfl) (by kernel_rfl) (by kernel_rfl) (fun _ _ _ h => by obtain ⟨_, _, h, _⟩ := h; cases h) (by rfl) (by intro w' hS; go_simp) (by assumption) ?_
      try simp only [Act.put, List.setIfInBounds_toArray, List.set_cons_zero, List.set_cons_succ]
      refine held_take 14 (.pointer (some ⟨xcb, xco + d, none⟩)) rfl (by kernel_rfl) (by kernel_rfl) (by kernel_rfl) (fun _ _ _ h => by obtain ⟨_, _, h, _⟩ := h; cases h) (by rfl) (by intro w' hS; go_simp) (by assumption) ?_
      try simp only [Act.put, List.setIfInBounds_toArray, List.set_cons_zero, List.set_cons_succ]
      refine held_take 15 (.int .i64 xv) rfl (by kernel_rfl) (by kernel_rfl) (by kernel_rfl) (fun _ _ _ h => by obtain ⟨_, _, h, _⟩ := h; cases h) (by rfl) (by intro w' hS; go_simp) (by assumption) ?_
      try simp only [Act.put, List.setIfInBounds_toArray, List.set_cons_zero, List.set_cons_succ]
      refine held_two 9 16 (by kernel_rfl) rfl rfl (by rfl) (by rfl) (fun K hK => ?_) (fun K hK => ?_)
      · go_simp
        refine hK.out _ _ hHeld (fun hHeld => ?_)
        try simp only [Act.put, List.setIfInBounds_toArray, List.set_cons_zero, List.set_cons_succ]
        refine held_call 16 (by kernel_rfl) rfl (by rfl) (fun K hK => ?_)
        go_simp
        refine (MUL1.out _).mono ?_
        rintro e wz ⟨rfl, rfl⟩
        go_wp2_with fail
        refine hK.out _ _ hHeld (fun hHeld => ?_)
        try simp only [Act.put, List.setIfInBounds_toArray, List.set_cons_zero, List.set_cons_succ]
        refine held_call 17 (by kernel_rfl) rfl (by rfl) (fun K hK => ?_)
        go_simp
        refine (ADD1.out _).mono ?_
        rintro e wz ⟨rfl, rfl⟩
        go_wp2_with fail
        refine hK.out _ _ hHeld (fun hHeld => ?_)
        try simp only [Act.put, List.setIfInBounds_toArray, List.set_cons_zero, List.set_cons_succ]
        refine held_take 18 (.pointer (some ⟨gw, b, none⟩)) rfl (by kernel_rfl) (by kernel_rfl) (by kernel_rfl) (fun _ _ _ h => by obtain ⟨_, _, h, _⟩ := h; cases h) (by rfl) (by intro w' hS; go_simp) (by assumption) ?_
        try simp only [Act.put, List.setIfInBounds_toArray, List.set_cons_zero, List.set_cons_succ]
        refine held_call 19 (by kernel_rfl) rfl (by rfl) (fun K hK => ?_)
        go_simp
        rw [HV6.out]
        refine hK.out _ _ SA6.out (fun hHeld => ?_)
        try simp only [Act.put, List.setIfInBounds_toArray, List.set_cons_zero, List.set_cons_succ]
        refine wpAnyH_done (by kernel_rfl) ?_ _
        refine ⟨(), trivial, rfl, ?_, rfl⟩
        simp only [Act.put, List.setIfInBounds_toArray, List.set_cons_zero, List.set_cons_succ]
      · go_simp
        refine (MUL1.out _).mono ?_
        rintro e wz ⟨rfl, rfl⟩
        go_wp2_with fail
        refine hK.out _ _ hHeld (fun hHeld => ?_)
        try simp only [Act.put, List.setIfInBounds_toArray, List.set_cons_zero, List.set_cons_succ]
        refine held_call 9 (by kernel_rfl) rfl (by rfl) (fun K hK => ?_)
        go_simp
        refine hK.out _ _ hHeld (fun hHeld => ?_)
        try simp only [Act.put, List.setIfInBounds_toArray, List.set_cons_zero, List.set_cons_succ]
        refine held_call 17 (by kernel_rfl) rfl (by rfl) (fun K hK => ?_)
        go_simp
        refine (ADD1.out _).mono ?_
        rintro e wz ⟨rfl, rfl⟩
        go_wp2_with fail
        refine hK.out _ _ hHeld (fun hHeld => ?_)
        try simp only [Act.put, List.setIfInBounds_toArray, List.set_cons_zero, List.set_cons_succ]
        refine held_take 18 (.pointer (some ⟨gw, b, none⟩)) rfl (by kernel_rfl) (by kernel_rfl) (by kernel_rfl) (fun _ _ _ h => by obtain ⟨_, _, h, _⟩ := h; cases h) (by rfl) (by intro w' hS; go_simp) (by assumption) ?_
        try simp only [Act.put, List.setIfInBounds_toArray, List.set_cons_zero, List.set_cons_succ]
        refine held_call 19 (by kernel_rfl) rfl (by rfl) (fun K hK => ?_)
        go_simp
        rw [HV6.out]
        refine hK.out _ _ SA6.out (fun hHeld => ?_)
        try simp only [Act.put, List.setIfInBounds_toArray, List.set_cons_zero, List.set_cons_succ]
        refine wpAnyH_done (by kernel_rfl) ?_ _
        refine ⟨(), trivial, rfl, ?_, rfl⟩
        simp only [Act.put, List.setIfInBounds_toArray, List.set_cons_zero, List.set_cons_succ]
    gi_wp2_with fail
    refine round_cutQ (ι := Unit) (fun _ => True) (fun _ act => (((((((((((((((((((act.put (some 82) (.pointer (some ⟨D, 2, none⟩))).put (some 83) (.pointer (some ⟨D, 3, none⟩))).put (some 84) (.slice (some ⟨gx, 0, none⟩) x.cl d2p)).put (some 85) (.int .i64 (d : Int))).put (some 86) (.pointer (some ⟨D, 2, none⟩))).put (some 87) (.pointer (some ⟨D, 3, none⟩))).put (some 88) (.slice (some ⟨gx, 0, none⟩) x.cl d2p)).put (some 89) (.int .i64 (d : Int))).put (some 90) (.pointer (some ⟨gx, d, none⟩))).put (some 91) (.int .i64 y2)).put (some 92) (.int .i64 gv)).put (some 93) (.pointer (some ⟨B, 1, none⟩))).put (some 94) (.slice (some ⟨wcb, wco, none⟩) W.cl W.cc)).put (some 95) (.int .i64 (b : Int))).put (some 96) (.pointer (some ⟨wcb, wco + b, none⟩))).put (some 97) (.int .i64 wv)).put (some 98) (.int .i64 p2)).put (some 99) (.int .i64 q2v)).put (some 100) (.pointer (some ⟨gx, d, none⟩)))) (fun _ => V8) (fun V' => V'.cell? ⟨D, 3, none⟩ = some (.slice (some ⟨gx, 0, none⟩) x.cl d2p) ∧ V'.cell? ⟨B, 1, none⟩ = some (.slice (some ⟨wcb, wco, none⟩) W.cl W.cc) ∧ V'.cell? ⟨wcb, wco + b, none⟩ = some (.int .i64 wv)) (by kernel_rfl) (by kernel_rfl) SB6.out (fun hHeld => ?_) (fun _ _ => ?_)
    · refine held_take 0 (.pointer (some ⟨D, 2, none⟩)) rfl (by kernel_rfl) (by kernel_rfl) (by kernel_rfl) (fun _ _ _ h => by obtain ⟨_, _, h, _⟩ := h; cases h) (by rfl) (by intro w' hS; go_simp) (by assumption) ?_
      try simp only [Act.put, List.setIfInBounds_toArray, List.set_cons_zero, List.set_cons_succ]
      refine held_take 1 (.pointer (some ⟨D, 3, none⟩)) rfl (by kernel_rfl) (by kernel_rfl) (by kernel_rfl) (fun _ _ _ h => by obtain ⟨_, _, h, _⟩ := h; cases h) (by rfl) (by intro w' hS; go_simp) (by assumption) ?_
      try simp only [Act.put, List.setIfInBounds_toArray, List.set_cons_zero, List.set_cons_succ]
      refine held_take 2 (.slice (some ⟨gx, 0, none⟩) x.cl d2p) rfl (by kernel_rfl) (by kernel_rfl) (by kernel_rfl) (fun _ _ _ h => by obtain ⟨_, _, h, _⟩ := h; cases h) (by rfl) (by intro w' hS; go_simp) (by assumption) ?_
      try simp only [Act.put, List.setIfInBounds_toArray, List.set_cons_zero, List.set_cons_succ]
      refine held_take 3 (.int .i64 (d : Int)) rfl (by kernel_rfl) (by kernel_rfl) (by kernel_rfl) (fun _ _ _ h => by obtain ⟨_, _, h, _⟩ := h; cases h) (by rfl) (by intro w' hS; go_simp) (by assumption) ?_
      try simp only [Act.put, List.setIfInBounds_toArray, List.set_cons_zero, List.set_cons_succ]
      refine held_take 4 (.pointer (some ⟨D, 2, none⟩)) rfl (by kernel_rfl) (by kernel_rfl) (by kernel_rfl) (fun _ _ _ h => by obtain ⟨_, _, h, _⟩ := h; cases h) (by rfl) (by intro w' hS; go_simp) (by assumption) ?_
      try simp only [Act.put, List.setIfInBounds_toArray, List.set_cons_zero, List.set_cons_succ]
      refine held_take 5 (.pointer (some ⟨D, 3, none⟩)) rfl (by kernel_rfl) (by kernel_rfl) (by kernel_rfl) (fun _ _ _ h => by obtain ⟨_, _, h, _⟩ := h; cases h) (by rfl) (by intro w' hS; go_simp) (by assumption) ?_
      try simp only [Act.put, List.setIfInBounds_toArray, List.set_cons_zero, List.set_cons_succ]
      refine held_take 6 (.slice (some ⟨gx, 0, none⟩) x.cl d2p) rfl (by kernel_rfl) (by kernel_rfl) (by kernel_rfl) (fun _ _ _ h => by obtain ⟨_, _, h, _⟩ := h; cases h) (by rfl) (by intro w' hS; go_simp) (by assumption) ?_
      try simp only [Act.put, List.setIfInBounds_toArray, List.set_cons_zero, List.set_cons_succ]
      refine held_take 7 (.int .i64 (d : Int)) rfl (by kernel_rfl) (by kernel_rfl) (by kernel_rfl) (fun _ _ _ h => by obtain ⟨_, _, h, _⟩ := h; cases h) (by rfl) (by intro w' hS; go_simp) (by assumption) ?_
      try simp only [Act.put, List.setIfInBounds_toArray, List.set_cons_zero, List.set_cons_succ]
      refine held_take 8 (.pointer (some ⟨gx, d, none⟩)) rfl (by kernel_rfl) (by kernel_rfl) (by kernel_rfl) (fun _ _ _ h => by obtain ⟨_, _, h, _⟩ := h; cases h) (by rfl) (by intro w' hS; go_simp) (by assumption) ?_
      try simp only [Act.put, List.setIfInBounds_toArray, List.set_cons_zero, List.set_cons_succ]
      refine held_take 10 (.int .i64 gv) rfl (by kernel_rfl) (by kernel_rfl) (by kernel_rfl) (fun _ _ _ h => by obtain ⟨_, _, h, _⟩ := h; cases h) (by rfl) (by intro w' hS; go_simp) (by assumption) ?_
      try simp only [Act.put, List.setIfInBounds_toArray, List.set_cons_zero, List.set_cons_succ]
      refine held_take 11 (.pointer (some ⟨B, 1, none⟩)) rfl (by kernel_rfl) (by kernel_rfl) (by kernel_rfl) (fun _ _ _ h => by obtain ⟨_, _, h, _⟩ := h; cases h) (by rfl) (by intro w' hS; go_simp) (by assumption) ?_
      try simp only [Act.put, List.setIfInBounds_toArray, List.set_cons_zero, List.set_cons_succ]
      refine held_take 12 (.slice (some ⟨wcb, wco, none⟩) W.cl W.cc) rfl (by kernel_rfl) (by kernel_rfl) (by kernel_rfl) (fun _ _ _ h => by obtain ⟨_, _, h, _⟩ := h; cases h) (by rfl) (by intro w' hS; go_simp) (by assumption) ?_
      try simp only [Act.put, List.setIfInBounds_toArray, List.set_cons_zero, List.set_cons_succ]
      refine held_take 13 (.int .i64 (b : Int)) rfl (by kernel_rfl) (by kernel_rfl) (by kernel_rfl) (fun _ _ _ h => by obtain ⟨_, _, h, _⟩ := h; cases h) (by rfl) (by intro w' hS; go_simp) (by assumption) ?_
      try simp only [Act.put, List.setIfInBounds_toArray, List.set_cons_zero, List.set_cons_succ]
      refine held_take 14 (.pointer (some ⟨wcb, wco + b, none⟩)) rfl (by kernel_rfl) (by kernel_rfl) (by kernel_rfl) (fun _ _ _ h => by obtain ⟨_, _, h, _⟩ := h; cases h) (by rfl) (by intro w' hS; go_simp) (by assumption) ?_
      try simp only [Act.put, List.setIfInBounds_toArray, List.set_cons_zero, List.set_cons_succ]
      refine held_take 15 (.int .i64 wv) rfl (by kernel_rfl) (by kernel_rfl) (by kernel_rfl) (fun _ _ _ h => by obtain ⟨_, _, h, _⟩ := h; cases h) (by rfl) (by intro w' hS; go_simp) (by assumption) ?_
      try simp only [Act.put, List.setIfInBounds_toArray, List.set_cons_zero, List.set_cons_succ]
      refine held_two 9 16 (by kernel_rfl) rfl rfl (by rfl) (by rfl) (fun K hK => ?_) (fun K hK => ?_)
      · go_simp
        refine hK.out _ _ hHeld (fun hHeld => ?_)
        try simp only [Act.put, List.setIfInBounds_toArray, List.set_cons_zero, List.set_cons_succ]
        refine held_call 16 (by kernel_rfl) rfl (by rfl) (fun K hK => ?_)
        go_simp
        refine (MUL2.out _).mono ?_
        rintro e wz ⟨rfl, rfl⟩
        go_wp2_with fail
        refine hK.out _ _ hHeld (fun hHeld => ?_)
        try simp only [Act.put, List.setIfInBounds_toArray, List.set_cons_zero, List.set_cons_succ]
        refine held_call 17 (by kernel_rfl) rfl (by rfl) (fun K hK => ?_)
        go_simp
        refine (ADD2.out _).mono ?_
        rintro e wz ⟨rfl, rfl⟩
        go_wp2_with fail
        refine hK.out _ _ hHeld (fun hHeld => ?_)
        try simp only [Act.put, List.setIfInBounds_toArray, List.set_cons_zero, List.set_cons_succ]
        refine held_take 18 (.pointer (some ⟨gx, d, none⟩)) rfl (by kernel_rfl) (by kernel_rfl) (by kernel_rfl) (fun _ _ _ h => by obtain ⟨_, _, h, _⟩ := h; cases h) (by rfl) (by intro w' hS; go_simp) (by assumption) ?_
        try simp only [Act.put, List.setIfInBounds_toArray, List.set_cons_zero, List.set_cons_succ]
        refine held_call 19 (by kernel_rfl) rfl (by rfl) (fun K hK => ?_)
        go_simp
        rw [HV8.out]
        refine hK.out _ _ SB8.out (fun hHeld => ?_)
        try simp only [Act.put, List.setIfInBounds_toArray, List.set_cons_zero, List.set_cons_succ]
        refine wpAnyH_done (by kernel_rfl) ?_ _
        refine ⟨(), trivial, rfl, ?_, rfl⟩
        simp only [Act.put, List.setIfInBounds_toArray, List.set_cons_zero, List.set_cons_succ]
      · go_simp
        refine (MUL2.out _).mono ?_
        rintro e wz ⟨rfl, rfl⟩
        go_wp2_with fail
        refine hK.out _ _ hHeld (fun hHeld => ?_)
        try simp only [Act.put, List.setIfInBounds_toArray, List.set_cons_zero, List.set_cons_succ]
        refine held_call 9 (by kernel_rfl) rfl (by rfl) (fun K hK => ?_)
        go_simp
        refine hK.out _ _ hHeld (fun hHeld => ?_)
        try simp only [Act.put, List.setIfInBounds_toArray, List.set_cons_zero, List.set_cons_succ]
        refine held_call 17 (by kernel_rfl) rfl (by rfl) (fun K hK => ?_)
        go_simp
        refine (ADD2.out _).mono ?_
        rintro e wz ⟨rfl, rfl⟩
        go_wp2_with fail
        refine hK.out _ _ hHeld (fun hHeld => ?_)
        try simp only [Act.put, List.setIfInBounds_toArray, List.set_cons_zero, List.set_cons_succ]
        refine held_take 18 (.pointer (some ⟨gx, d, none⟩)) rfl (by kernel_rfl) (by kernel_rfl) (by kernel_rfl) (fun _ _ _ h => by obtain ⟨_, _, h, _⟩ := h; cases h) (by rfl) (by intro w' hS; go_simp) (by assumption) ?_
        try simp only [Act.put, List.setIfInBounds_toArray, List.set_cons_zero, List.set_cons_succ]
        refine held_call 19 (by kernel_rfl) rfl (by rfl) (fun K hK => ?_)
        go_simp
        rw [HV8.out]
        refine hK.out _ _ SB8.out (fun hHeld => ?_)
        try simp only [Act.put, List.setIfInBounds_toArray, List.set_cons_zero, List.set_cons_succ]
        refine wpAnyH_done (by kernel_rfl) ?_ _
        refine ⟨(), trivial, rfl, ?_, rfl⟩
        simp only [Act.put, List.setIfInBounds_toArray, List.set_cons_zero, List.set_cons_succ]
    gi_wp2_with fail
    exact F.out
end Go.Proofs.Ytapelgjnnccfoaa

/-
  Two new slices of integers, one behind the other.
-/
namespace Go.Proofs.Ytapelgjnnccfoaa
open Go.RowKit
set_option linter.unusedVariables false
set_option linter.unusedSimpArgs false

/-- Two new slices of integers, one behind the other. -/
theorem rows_made5 (W : World) (t t' : TypeId) (xs ys : List Int) (n m : Nat) (hn : xs.length = n) (hm : ys.length = m) (h1 : n ≤ 1000) (h2 : m ≤ 1000) (f1 : Fits xs) (f2 : Fits ys) :
    ∃ W2, Hid ((W.alloc (.cells (xs.map (Value.int .i64)).toArray t)).alloc (.cells (ys.map (Value.int .i64)).toArray t') = W2) ∧ Hid (IntsAt W2 (some ⟨W.heap.size, 0, none⟩) n xs) ∧ Hid (IntsAt W2 (some ⟨W.heap.size + 1, 0, none⟩) m ys) ∧ Hid (Below W.heap.size W W2) := by
  refine ⟨_, Lib.hid rfl, Lib.hid ((IntsAt.made W t xs n hn (by omega) f1).kept ((Below.refl _ _).alloc (Nat.le_refl _) _)), Lib.hid ?_, Lib.hid (((Below.refl _ _).alloc (Nat.le_refl _) _).alloc (by simp) _)⟩
  have := IntsAt.made (W.alloc (.cells (xs.map (Value.int .i64)).toArray t)) t' ys m hm (by omega) f2
  simpa using this
theorem fits_few {l : List Int} (h : allR (-100) 100 l = true) : Fits l := by
  intro n hn
  unfold allR at h
  rw [List.all_eq_true] at h
  have := inR_bounds (h n hn)
  omega
end Go.Proofs.Ytapelgjnnccfoaa

