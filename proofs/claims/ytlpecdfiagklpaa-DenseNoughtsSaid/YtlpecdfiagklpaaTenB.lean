/-
  Contracts of package tensor: Right, alike.
-/
import Derived.Test.YtlpecdfiagklpaaTenA
import Derived.Test.YtlpecdfiagklpaaHas
import Derived.StillTailTactics
import Derived.IntWalk
import Derived.Deep.RegionHeld3
namespace Go.Proofs.Ytlpecdfiagklpaa
open Go.RowKit
set_option linter.unusedVariables false
set_option linter.unusedSimpArgs false

/-- A block holds a tensor. -/
def GAt (w : World) (B : Nat) (s c : Value) : Prop := w.heap[B]? = some (.cells #[s, c] 26 (0, 0))
theorem GAt.lt {w : World} {B : Nat} {s c : Value} (h : GAt w B s c) : B < w.heap.size := (Array.getElem?_eq_some_iff.1 h).1
theorem GAt.kept {w w' : World} {B : Nat} {s c : Value} (h : GAt w B s c) (hb : Below w.heap.size w w') : GAt w' B s c := (hb.block B h.lt).trans h
theorem GAt.below {w w' : World} {B n : Nat} {s c : Value} (h : GAt w B s c) (hb : Below n w w') (hn : B < n) : GAt w' B s c := (hb.block B hn).trans h
theorem GAt.see {w : World} {B : Nat} {s c : Value} (h : GAt w B s c) : w.cell? ⟨B, 0, none⟩ = some s ∧ w.cell? ⟨B, 1, none⟩ = some c ∧ w.frozen? ⟨B, 0, none⟩ = false ∧ w.frozen? ⟨B, 1, none⟩ = false :=
  ⟨by rw [Joins.cell_of_block h]; rfl, by rw [Joins.cell_of_block h]; rfl, Joins.unfrozen_of_block h 0, Joins.unfrozen_of_block h 1⟩
theorem GAt.set {w : World} {B : Nat} {s c : Value} (h : GAt w B s c) (s' c' : Value) : GAt ((w.setCell ⟨B, 0, none⟩ s').setCell ⟨B, 1, none⟩ c') B s' c' := by
  have h1 := Joins.block_setCell (Joins.block_setCell (i := 0) h s') (i := 1) c'
  exact h1
theorem GAt.other {w : World} {B : Nat} {s c : Value} (h : GAt w B s c) {p : Addr} (v : Value) (hp : B ≠ p.block) : GAt (w.setCell p v) B s c := (Below.heap_setCell w p v B hp).trans h
theorem GAt.drew {w : World} {B : Nat} {s c : Value} (h : GAt w B s c) : GAt w.drew B s c := h
theorem grid_box (w : World) (s c : Value) : ∃ wB, Hid (w.alloc (.cells #[s, c] 26) = wB) ∧ Hid (GAt wB w.heap.size s c) ∧ Hid (Below w.heap.size w wB) ∧ Hid (wB.heap.size = w.heap.size + 1) :=
  ⟨_, Lib.hid rfl, Lib.hid (World.alloc_heap_new w _), Lib.hid ((Below.refl _ _).alloc (Nat.le_refl _) _), Lib.hid (by simp)⟩

/-- A tensor with this shape and this number of cells is valid. -/
def rightT (ss : List Int) (n : Nat) : Bool := rightS ss && decide ((n : Int) = prodI ss)
theorem rightT_no {ss : List Int} {n : Nat} (h : rightS ss = false) : false = rightT ss n := by simp [rightT, h]
theorem rightT_len {ss : List Int} {n : Nat} (h : ¬ (n : Int) = prodI ss) : false = rightT ss n := by simp [rightT, h]
theorem rightT_yes {ss : List Int} {n : Nat} (h : rightS ss = true) (h' : (n : Int) = prodI ss) : true = rightT ss n := by simp [rightT, h, h']
theorem rightT_parts {ss : List Int} {n : Nat} (h : rightT ss n = true) : rightS ss = true ∧ (n : Int) = prodI ss := by simpa [rightT] using h

set_option maxHeartbeats 1000000 in
theorem tright_any (sa : Option Addr) (sl sc : Nat) (ss : List Int) (ca : Option Addr) (cl cc : Nat) (w : World) (h : IntsAt w sa sl ss) (hl : cl ≤ 9223372036854775807) :
    Calls Try.prog 47 #[.agg #[.slice sa sl sc, .slice ca cl cc]] w fun e w' => e = .returned (.bool (rightT ss cl)) ∧ Below w.heap.size w w' := by
  obtain ⟨wB, hwB, J, z0, -⟩ := grid_box w (.slice sa sl sc) (.slice ca cl cc)
  have C := size_any sa sl sc ss wB (h.kept z0.out)
  clear h
  cases b : rightS ss
  · rw [sizeE_no b, sizeN_no b] at C
    have C1 := Lib.hid C
    have E := Lib.hid (rightT_no (n := cl) b)
    clear C b
    go_enter Try.func47, Try.ntmps47
    go_wp2_with fail
    rw [hwB.out]
    refine C1.out.mono ?_
    rintro e w1 ⟨rfl, hb1⟩
    go_wp2_with fail
    go_ret
    exact ⟨ret_bool E.out, z0.out.trans (hb1.mono z0.out.size)⟩
  · rw [sizeE_yes b, sizeN_yes b] at C
    have E1 := Lib.hid (fun h => rightT_yes (n := cl) b h)
    have E2 := Lib.hid (fun h => rightT_len (ss := ss) (n := cl) h)
    clear b
    obtain ⟨x, hx⟩ : ∃ x, prodI ss = x := ⟨_, rfl⟩
    rw [hx] at C E1 E2
    clear hx
    have C1 := Lib.hid C
    clear C
    by_cases c : (cl : Int) = x
    · have E := Lib.hid (E1.out c)
      clear E1 E2
      go_enter Try.func47, Try.ntmps47
      go_wp2_with fail
      rw [hwB.out]
      refine C1.out.mono ?_
      rintro e w1 ⟨rfl, hb1⟩
      obtain ⟨j0, j1, -, -⟩ := (J.out.kept hb1).see
      go_wp2_with fail
      go_ret
      exact ⟨ret_bool E.out, z0.out.trans (hb1.mono z0.out.size)⟩
    · have E : Hid (((cl : Int) == x) = rightT ss cl) := Lib.hid ((beq_eq_false_iff_ne.2 c).trans (E2.out c))
      clear E1 E2
      go_enter Try.func47, Try.ntmps47
      go_wp2_with fail
      rw [hwB.out]
      refine C1.out.mono ?_
      rintro e w1 ⟨rfl, hb1⟩
      obtain ⟨j0, j1, -, -⟩ := (J.out.kept hb1).see
      go_wp2_with fail
      go_ret
      exact ⟨ret_bool E.out, z0.out.trans (hb1.mono z0.out.size)⟩

/-- Both tensors are valid and have the same shape. -/
def alikeT (s1 : List Int) (n1 : Nat) (s2 : List Int) (n2 : Nat) : Bool := rightT s1 n1 && rightT s2 n2 && sameL s1 s2

set_option maxHeartbeats 1000000 in
theorem alike_any (sa : Option Addr) (sl sc : Nat) (ss : List Int) (ca : Option Addr) (cl cc : Nat) (sa2 : Option Addr) (sl2 sc2 : Nat) (ss2 : List Int) (ca2 : Option Addr) (cl2 cc2 : Nat) (w : World)
    (h : IntsAt w sa sl ss) (hl : cl ≤ 9223372036854775807) (h2 : IntsAt w sa2 sl2 ss2) (hl2 : cl2 ≤ 9223372036854775807) :
    Calls Try.prog 54 #[.agg #[.slice sa sl sc, .slice ca cl cc], .agg #[.slice sa2 sl2 sc2, .slice ca2 cl2 cc2]] w fun e w' => e = .returned (.bool (alikeT ss cl ss2 cl2)) ∧ Below w.heap.size w w' := by
  obtain ⟨wA, hwA, J1, z1, n1⟩ := grid_box w (.slice sa sl sc) (.slice ca cl cc)
  obtain ⟨wB, hwB, J2, z2, -⟩ := grid_box wA (.slice sa2 sl2 sc2) (.slice ca2 cl2 cc2)
  rw [n1.out] at J2
  have z := Lib.hid (z1.out.trans (z2.out.mono z1.out.size))
  have J1' := Lib.hid (J1.out.kept z2.out)
  have C := tright_any sa sl sc ss ca cl cc wB (h.kept z.out) hl
  have D := fun w1 (hb : Below wB.heap.size wB w1) => tright_any sa2 sl2 sc2 ss2 ca2 cl2 cc2 w1 ((h2.kept z.out).kept hb) hl2
  have F := Lib.hid (fun w1 (hb : Below wB.heap.size wB w1) => equal_any sa sl sc ss sa2 sl2 sc2 ss2 w1 ((h.kept z.out).kept hb) ((h2.kept z.out).kept hb))
  clear h h2 J1
  cases b1 : rightT ss cl
  · rw [b1] at C
    have C1 := Lib.hid C
    have E : Hid (false = alikeT ss cl ss2 cl2) := Lib.hid (by simp [alikeT, b1])
    clear C D F b1
    go_enter Try.func54, Try.ntmps54
    go_wp2_with fail
    rw [hwA.out, hwB.out]
    obtain ⟨i0, i1, -, -⟩ := J1'.out.see
    go_wp2_with fail
    refine C1.out.mono ?_
    rintro e w1 ⟨rfl, hb1⟩
    go_wp2_with fail
    go_ret
    exact ⟨ret_bool E.out, z.out.trans (hb1.mono z.out.size)⟩
  cases b2 : rightT ss2 cl2
  · rw [b1] at C
    rw [b2] at D
    have C1 := Lib.hid C
    have D1 := Lib.hid D
    have E : Hid (false = alikeT ss cl ss2 cl2) := Lib.hid (by simp [alikeT, b2])
    clear C D F b1 b2
    go_enter Try.func54, Try.ntmps54
    go_wp2_with fail
    rw [hwA.out, hwB.out]
    obtain ⟨i0, i1, -, -⟩ := J1'.out.see
    go_wp2_with fail
    refine C1.out.mono ?_
    rintro e w1 ⟨rfl, hb1⟩
    obtain ⟨j0, j1, -, -⟩ := (J2.out.kept hb1).see
    go_wp2_with fail
    refine (D1.out _ hb1).mono ?_
    rintro e w2 ⟨rfl, hb2⟩
    go_wp2_with fail
    go_ret
    exact ⟨ret_bool E.out, z.out.trans ((hb1.trans (hb2.mono hb1.size)).mono z.out.size)⟩
  · rw [b1] at C
    rw [b2] at D
    have C1 := Lib.hid C
    have D1 := Lib.hid D
    have E : Hid (sameL ss ss2 = alikeT ss cl ss2 cl2) := Lib.hid (by simp [alikeT, b1, b2])
    clear C D b1 b2
    obtain ⟨x, hx⟩ : ∃ x, sameL ss ss2 = x := ⟨_, rfl⟩
    rw [hx] at E F
    clear hx
    go_enter Try.func54, Try.ntmps54
    go_wp2_with fail
    rw [hwA.out, hwB.out]
    obtain ⟨i0, i1, -, -⟩ := J1'.out.see
    go_wp2_with fail
    refine C1.out.mono ?_
    rintro e w1 ⟨rfl, hb1⟩
    obtain ⟨j0, j1, -, -⟩ := (J2.out.kept hb1).see
    go_wp2_with fail
    refine (D1.out _ hb1).mono ?_
    rintro e w2 ⟨rfl, hb2⟩
    have hb3 := hb1.trans (hb2.mono hb1.size)
    obtain ⟨k0, k1, -, -⟩ := (J1'.out.kept hb3).see
    obtain ⟨l0, l1, -, -⟩ := (J2.out.kept hb3).see
    go_wp2_with fail
    refine (F.out _ hb3).mono ?_
    rintro e w3 ⟨rfl, n, rfl⟩
    go_wp2_with fail
    go_ret
    exact ⟨ret_bool E.out, z.out.trans ((below_drewN' hb3 n).mono z.out.size)⟩

theorem row_far {w : World} {B : Nat} {e : TypeId} {k : Nat} {v : Value} {n : Nat} {xs : List Value} {p : Addr} {u : Value} (h : w.ownsRow B e k v n xs) (hp : p.block < B) : (w.setCell p u).ownsRow B e k v n xs := by
  rcases h.2 with h2 | ⟨g, cap, cur, hv, hbg, hg, rest⟩
  · exact ⟨h.1, .inl h2⟩
  · exact ⟨h.1, .inr ⟨g, cap, cur, hv, hbg, (Below.heap_setCell w p u g (by omega)).trans hg, rest⟩⟩

/-- A new tensor; all that was there before is as it was. -/
def NewT (w : World) (sl : Nat) (ss : List Int) (cl : Nat) (cs : List Int) (v : Value) (w' : World) : Prop :=
  ∃ A c A' c', v = .agg #[.slice A sl c, .slice A' cl c'] ∧ w'.ownsRow w.heap.size 3 1 (.slice A sl c) sl (ss.map (Value.int .i64)) ∧ w'.ownsRow w.heap.size 47 1 (.slice A' cl c') cl (cs.map (Value.int .i64)) ∧
    (∀ p q, A = some p → A' = some q → p.block ≠ q.block) ∧ Below w.heap.size w w'

set_option maxHeartbeats 4000000 in
theorem tcopy_any (sa : Option Addr) (sl sc : Nat) (ss : List Int) (ca : Option Addr) (cl cc : Nat) (cs : List Int) (w : World)
    (h : IntsAt w sa sl ss) (hs : sl ≤ 1000) (h2 : IntsAt w ca cl cs) (hl : cl ≤ 1000) :
    Calls Try.prog 28 #[.agg #[.slice sa sl sc, .slice ca cl cc]] w fun e w' => ∃ v, e = .returned v ∧ NewT w sl ss cl cs v w' := by
  obtain ⟨wA, hwA, J1, z1, n1⟩ := grid_box w (.slice sa sl sc) (.slice ca cl cc)
  obtain ⟨wB, hwB, J2, z2, n2⟩ := grid_box wA (.slice none 0 0) (.slice none 0 0)
  have z := Lib.hid (z1.out.trans (z2.out.mono z1.out.size))
  have J := Lib.hid (J1.out.kept z2.out)
  have C := Lib.hid (fun w1 (hb : Below wB.heap.size wB w1) => copy_any sa sl sc ss w1 ((h.kept z.out).kept hb) hs)
  have D := Lib.hid (fun w1 (hb : Below wB.heap.size wB w1) => cloneF_any ca cl cc cs w1 ((h2.kept z.out).kept hb) hl)
  clear h h2 J1
  go_enter Try.func28, Try.ntmps28
  go_wp2_with fail
  rw [hwA.out, hwB.out]
  have t0 : Below wB.heap.size wB wB.drew := (Below.refl _ _).drew
  have t0' := Lib.hid t0
  have SK := Lib.hid (fun w' (hb : Below wB.heap.size wB w') => (⟨(J.out.kept hb).see.1, (J.out.kept hb).see.2.1⟩ : w'.cell? ⟨w.heap.size, 0, none⟩ = some (.slice sa sl sc) ∧ w'.cell? ⟨w.heap.size, 1, none⟩ = some (.slice ca cl cc)))
  have u0 := SK.out _ (Below.refl _ _)
  have u1 := SK.out _ t0
  clear t0
  go_region_held3 (fun w' => w'.cell? ⟨w.heap.size, 0, none⟩ = some (.slice sa sl sc) ∧ w'.cell? ⟨w.heap.size, 1, none⟩ = some (.slice ca cl cc))
    (first | exact u0 | exact u1 | exact u2 | exact u3 | go_keep)
    ((first
      | (go_at_call 42; refine (C.out _ t0'.out).mono ?_; rintro e w2 ⟨A, c, rfl, ho2, hb2⟩; have b2 := Lib.hid (t0'.out.trans (hb2.mono (Nat.le_refl _))); have u2 := SK.out w2 b2.out; have ho2' := Lib.hid ho2; have hb2' := Lib.hid hb2; clear ho2 hb2)
      | (go_at_call 39; refine (D.out _ b2.out).mono ?_; rintro e w3 ⟨A', c', rfl, ho3, hb3⟩; have u3 := SK.out w3 (b2.out.trans (hb3.mono b2.out.size)); have ho3' := Lib.hid ho3; have hb3' := Lib.hid hb3; clear ho3 hb3; obtain ⟨e0, e1, f0, f1⟩ := (J2.out.kept (b2.out.trans (hb3'.out.mono b2.out.size))).see; rw [n1.out] at e0 e1 f0 f1)))
  clear u0 u1 u2 u3
  have g2 : Below w2.heap.size w2 w3 := hb3'.out
  have sz : w.heap.size + 1 < wB.heap.size := by have h1 := n1.out; have h2 := n2.out; omega
  have sz2 : wB.heap.size ≤ w2.heap.size := b2.out.size
  have g3 : Below w.heap.size w w3 := z.out.trans ((b2.out.trans (g2.mono b2.out.size)).mono z.out.size)
  have J3 : GAt w3 (w.heap.size + 1) (.slice none 0 0) (.slice none 0 0) := by rw [← n1.out]; exact J2.out.kept (b2.out.trans (g2.mono b2.out.size))
  obtain ⟨h0, h1, -, -⟩ := (J3.set (.slice A sl c) (.slice A' cl c')).see
  have P : NewT w sl ss cl cs (.agg #[.slice A sl c, .slice A' cl c']) ((w3.setCell ⟨w.heap.size + 1, 0, none⟩ (.slice A sl c)).setCell ⟨w.heap.size + 1, 1, none⟩ (.slice A' cl c')) := by
    refine ⟨A, c, A', c', rfl, Joins.ownsRow_le (row_far (row_far (row_kept ho2'.out g2) ?_) ?_) ?_, Joins.ownsRow_le (row_far (row_far ho3'.out ?_) ?_) ?_, ?_, (g3.setCell ?_ _).setCell ?_ _⟩
    · exact sz
    · exact sz
    · exact z.out.size
    · exact Nat.lt_of_lt_of_le sz sz2
    · exact Nat.lt_of_lt_of_le sz sz2
    · exact Nat.le_trans z.out.size sz2
    · rintro p q rfl rfl
      have x1 := (ho2'.out.lt p.block rfl).2
      have x2 := (ho3'.out.lt q.block rfl).1
      omega
    · exact Nat.le_add_right _ _
    · exact Nat.le_add_right _ _
  obtain ⟨w4, hw4⟩ : ∃ w4, (w3.setCell ⟨w.heap.size + 1, 0, none⟩ (.slice A sl c)).setCell ⟨w.heap.size + 1, 1, none⟩ (.slice A' cl c') = w4 := ⟨_, rfl⟩
  rename_i hHeld
  clear hHeld
  rw [hw4] at P h0 h1 ⊢
  have P' := Lib.hid P
  clear P g2 sz sz2 g3 J3 e0 e1 f0 f1 hw4
  go_wp2_with fail
  refine bodyPost_ret (v := .agg #[.slice A sl c, .slice A' cl c']) ?_ rfl ⟨_, rfl, P'.out⟩
  simp [results, Try.results28, go_sem, h0, h1]
end Go.Proofs.Ytlpecdfiagklpaa
