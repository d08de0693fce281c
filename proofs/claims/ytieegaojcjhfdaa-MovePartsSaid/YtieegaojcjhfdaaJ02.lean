import Derived.Test.YtieegaojcjhfdaaJ00
import Derived.Test.YtieegaojcjhfdaaJ01
import Derived.StillTailTactics
import Derived.IntWalk
import Derived.Deep.RegionHeld3
import Derived.Deep.DeepCutAuto
import Derived.Deep.CutBlock
import Derived.Tactics
import Derived.Tactics2
import Derived.Defers
import Derived.Recover
import Derived.Laws.Pointers
import Derived.Laws.OwnMore
import Derived.LoopTactic
import Derived.Laws.Bits64b
import Derived.Test.YtieegaojcjhfdaaRows
import Derived.WalkKit
import Derived.WalkSpells
import Derived.Lib.Hide
import Derived.OpenShut
import Derived.Deep.RegionWith
/-
  Contracts of package tensor: cells copied, compared; a tensor as a value.
-/
namespace Go.Proofs.Ytieegaojcjhfdaa
open Go.RowKit
set_option linter.unusedVariables false
set_option linter.unusedSimpArgs false

theorem fInfo : (Try.prog.info? 35).map (fun i => (i.zero, i.size, i.bytes)) = some (some (.int .i64 0), 1, 8) := by kernel_rfl

/-- What came back is a new slice of these numbers; all that was there before is as it was. -/
def NewFs (w : World) (n : Nat) (zs : List Int) (e : Ending) (w' : World) : Prop :=
  ∃ A cap, e = .returned (.slice A n cap) ∧ w'.ownsRow w.heap.size 35 1 (.slice A n cap) n (zs.map (Value.int .i64)) ∧ Below w.heap.size w w'

set_option maxHeartbeats 2000000 in
theorem cloneF_any (a : Option Addr) (len cap : Nat) (zs : List Int) (w : World) (h : IntsAt w a len zs) (hs : len ≤ 1000) :
    Calls Try.prog 46 #[.slice a len cap] w (NewFs w len zs) := by
  have q : ∀ (w : World) (a : Option Addr) (n c n' c' : Nat), (binOp .eql 27 (.slice a n c) (.slice none n' c')).run Try.prog w = .ok (.bool a.isNone) w := fun w a n c n' c' => Lib.run_eql_slice_nil w _ _ a n c n' c' Try.underlying27
  obtain ⟨i0, hi, hz0, hz1, hz2⟩ := info_parts fInfo
  cases a with
  | none =>
    have e0 : len = 0 := by
      rcases h.2.2.2 with h4 | ⟨b, off, ha, _⟩
      · exact h4
      · cases ha
    subst e0
    have e1 : zs = [] := List.length_eq_zero_iff.1 h.1
    subst e1
    clear h
    go_enter Try.func46, Try.ntmps46
    go_wp2_with fail
    go_ret
    exact ⟨none, 0, rfl, World.ownsRow_nil _ _ _ _, Below.refl _ _⟩
  | some ad =>
    have C := cells_news h (.cells #[] 35)
    have hl : zs.length = len := h.1
    clear h
    have A : Hid (∀ j u, (zs.map (Value.int .i64))[j]? = some u → (w.alloc (.cells #[] 35)).cell? (ad.add j) = some u) := C
    clear C
    have hl' := Lib.hid hl
    clear hl
    go_enter Try.func46, Try.ntmps46
    go_wp2_with (at_builtin; refine wpList_append_own _ rfl _ _ 27 rfl w.heap.size 35 i0 (.int .i64 0) 1 8 Try.underlying27 hi hz0 hz1 hz2 rfl (by decide) _ _ _ rfl (World.ownsRow_made w #[] 0 (Nat.le_refl _) (Nat.zero_le _) rfl) ad len cap (zs.map (Value.int .i64)) rfl ?c1 ?c2 ?c3 ?c4 ?c5 ?c6 ?_)
    case c1 => rw [List.length_map, hl'.out, Nat.mul_one]
    case c2 => exact A.out
    case c3 => intro u hu; obtain ⟨x, _, rfl⟩ := List.mem_map.1 hu; rfl
    case c4 => unfold maxLen; omega
    case c5 => omega
    case c6 => simp
    intro v' w1 hown hgrow hnil
    have hb := ((Below.refl w.heap.size w).alloc (Nat.le_refl _) (.cells #[] 35)).grown hgrow (by simp) (by intro k hk; simp [Value.ownBlock] at hk; omega)
    have P : NewFs w len zs (.returned v') w1 := by
      rcases Joins.ownsRow_forms hown with ⟨rfl, e0⟩ | ⟨g, c, rfl⟩
      · subst e0; exact ⟨_, _, rfl, hown, hb⟩
      · exact ⟨_, _, rfl, hown, hb⟩
    replace P := Lib.hid P
    clear hown hgrow hnil hb
    go_wp2_with fail
    go_ret
    exact P.out


set_option maxHeartbeats 1000000 in
theorem sliceEqualF_any (a1 : Option Addr) (l1 c1 : Nat) (xs : List Int) (a2 : Option Addr) (l2 c2 : Nat) (ys : List Int) (w : World) (h : IntsAt w a1 l1 xs) (h' : IntsAt w a2 l2 ys) :
    Calls Try.prog 31 #[.slice a1 l1 c1, .slice a2 l2 c2] w fun e w' => e = .returned (.bool (sameL xs ys)) ∧ ∃ n, w' = w.drewN n := by
  obtain ⟨g1, g2, g3, g4⟩ := h
  obtain ⟨k1, k2, k3, k4⟩ := h'
  by_cases el : l1 = l2
  · obtain rfl := el
    have G := Lib.hid g1
    have K := Lib.hid k1
    clear g1 k1 g3 k3
    go_enter Try.func31, Try.ntmps31
    go_wp2_with fail
    go_loopw [13] (fun i wr => ∃ k n : Nat, k ≤ l1 ∧ i = .int .i64 k ∧ wr = w.drewN n ∧ Hid (xs.take k = ys.take k)) (fun i _ => l1 - (intOf i).toNat)
    case atStart => exact ⟨0, 0, Nat.zero_le _, rfl, rfl, rfl⟩
    case round =>
      obtain ⟨k, n, hk, rfl, rfl, hall⟩ := hrel
      by_cases hlt : k < l1
      · rcases g4 with g4 | ⟨b, off, rfl, hc⟩
        · omega
        rcases k4 with k4 | ⟨b', off', rfl, hc'⟩
        · omega
        have e1 := hc k hlt
        have e2 := hc' k hlt
        clear hc hc'
        have S := Lib.hid (take_step k (by rw [G.out, K.out]) (by rw [G.out]; exact hlt) hall.out)
        have T := Lib.hid (sameL_at (a := xs) (b := ys) k)
        generalize xs.getD k 0 = x at *
        generalize ys.getD k 0 = y at *
        by_cases hxy : x = y
        · subst hxy
          have S2 := Lib.hid (S.out rfl)
          clear S T hall
          go_wp2_with fail
          go_region
          go_wp2_with fail
          go_roundw
          case rel => exact ⟨k + 1, _, by omega, by go_num, rfl, S2⟩
          case measure => (simp [intOf]; try omega)
        · have T2 := Lib.hid (T.out hxy)
          clear S T hall
          go_wp2_with fail
          go_region
          go_wp2_with fail
          go_ret
          exact ⟨ret_bool T2.out, _, rfl⟩
      · have E := Lib.hid (sameL_full k (by rw [G.out, K.out]) (by rw [G.out]; omega) hall.out)
        clear g4 k4 hall
        go_wp2_with fail
        go_ret
        exact ⟨ret_bool E.out, _, rfl⟩
  · have E := Lib.hid (sameL_len (a := xs) (b := ys) (by omega))
    clear g4 k4 g1 k1 g3 k3
    go_enter Try.func31, Try.ntmps31
    go_wp2_with fail
    go_ret
    exact ⟨ret_bool E.out, 0, rfl⟩
end Go.Proofs.Ytieegaojcjhfdaa

/-
  Contracts of package tensor: Right, alike.
-/
namespace Go.Proofs.Ytieegaojcjhfdaa
open Go.RowKit
set_option linter.unusedVariables false
set_option linter.unusedSimpArgs false

/-- A block holds a tensor. -/
def GAt (w : World) (B : Nat) (s c : Value) : Prop := w.heap[B]? = some (.cells #[s, c] 29 (0, 0))
theorem GAt.lt {w : World} {B : Nat} {s c : Value} (h : GAt w B s c) : B < w.heap.size := (Array.getElem?_eq_some_iff.1 h).1
theorem GAt.kept {w w' : World} {B : Nat} {s c : Value} (h : GAt w B s c) (hb : Below w.heap.size w w') : GAt w' B s c := (hb.block B h.lt).trans h
theorem GAt.below {w w' : World} {B n : Nat} {s c : Value} (h : GAt w B s c) (hb : Below n w w') (hn : B < n) : GAt w' B s c := (hb.block B hn).trans h
theorem GAt.see {w : World} {B : Nat} {s c : Value} (h : GAt w B s c) : w.cell? ⟨B, 0, none⟩ = some s ∧ w.cell? ⟨B, 1, none⟩ = some c ∧ w.frozen? ⟨B, 0, none⟩ = false ∧ w.frozen? ⟨B, 1, none⟩ = false :=
  ⟨by rw [Joins.cell_of_block h]; rfl, by rw [Joins.cell_of_block h]; rfl, Joins.unfrozen_of_block h 0, Joins.unfrozen_of_block h 1⟩
theorem GAt.set {w : World} {B : Nat} {s c : Value} (h : GAt w B s c) (s' c' : Value) : GAt ((w.setCell ⟨B, 0, none⟩ s').setCell ⟨B, 1, none⟩ c') B s' c' := by
  have h1 := Joins.block_setCell (Joins.block_setCell (i := 0) h s') (i := 1) c'
  exact h1
theorem GAt.other {w : World} {B : Nat} {s c : Value} (h : GAt w B s c) {p : Addr} (v : Value) (hp : B ≠ p.block) : GAt (w.setCell p v) B s c := (Below.heap_setCell w p v B hp).trans h
theorem GAt.drew {w : World} {B : Nat} {s c : Value} (h : GAt w B s c) : GAt w.drew B s c := h
theorem grid_box (w : World) (s c : Value) : ∃ wB, Hid (w.alloc (.cells #[s, c] 29) = wB) ∧ Hid (GAt wB w.heap.size s c) ∧ Hid (Below w.heap.size w wB) ∧ Hid (wB.heap.size = w.heap.size + 1) :=
  ⟨_, Lib.hid rfl, Lib.hid (World.alloc_heap_new w _), Lib.hid ((Below.refl _ _).alloc (Nat.le_refl _) _), Lib.hid (by simp)⟩

/-- A tensor with this shape and this number of cells is valid. -/
def rightT (ss : List Int) (n : Nat) : Bool := rightS ss && decide ((n : Int) = prodI ss)
theorem rightT_no {ss : List Int} {n : Nat} (h : rightS ss = false) : false = rightT ss n := by simp [rightT, h]
theorem rightT_len {ss : List Int} {n : Nat} (h : ¬ (n : Int) = prodI ss) : false = rightT ss n := by simp [rightT, h]
theorem rightT_yes {ss : List Int} {n : Nat} (h : rightS ss = true) (h' : (n : Int) = prodI ss) : true = rightT ss n := by simp [rightT, h, h']
theorem rightT_parts {ss : List Int} {n : Nat} (h : rightT ss n = true) : rightS ss = true ∧ (n : Int) = prodI ss := by simpa [rightT] using h

set_option maxHeartbeats 1000000 in
theorem tright_any (sa : Option Addr) (sl sc : Nat) (ss : List Int) (ca : Option Addr) (cl cc : Nat) (w : World) (h : IntsAt w sa sl ss) (hl : cl ≤ 9223372036854775807) :
    Calls Try.prog 26 #[.agg #[.slice sa sl sc, .slice ca cl cc]] w fun e w' => e = .returned (.bool (rightT ss cl)) ∧ Below w.heap.size w w' := by
  obtain ⟨wB, hwB, J, z0, -⟩ := grid_box w (.slice sa sl sc) (.slice ca cl cc)
  have C := size_any sa sl sc ss wB (h.kept z0.out)
  clear h
  cases b : rightS ss
  · rw [sizeE_no b, sizeN_no b] at C
    have C1 := Lib.hid C
    have E := Lib.hid (rightT_no (n := cl) b)
    clear C b
    go_enter Try.func26, Try.ntmps26
    go_wp2_with fail
    rw [hwB.out]
    refine C1.out.mono ?_
    rintro e w1 ⟨rfl, hb1⟩
    go_wp2_with fail
    go_ret
    exact ⟨ret_bool E.out, z0.out.trans (hb1.mono z0.out.size)⟩
  · rw [sizeE_yes b, sizeN_yes b] at C
    have E1 := Lib.hid (fun h => rightT_yes (n := cl) b h)
    have E2 := Lib.hid (fun h => rightT_len (ss := ss) (n := cl) h)
    clear b
    obtain ⟨x, hx⟩ : ∃ x, prodI ss = x := ⟨_, rfl⟩
    rw [hx] at C E1 E2
    clear hx
    have C1 := Lib.hid C
    clear C
    by_cases c : (cl : Int) = x
    · have E := Lib.hid (E1.out c)
      clear E1 E2
      go_enter Try.func26, Try.ntmps26
      go_wp2_with fail
      rw [hwB.out]
      refine C1.out.mono ?_
      rintro e w1 ⟨rfl, hb1⟩
      obtain ⟨j0, j1, -, -⟩ := (J.out.kept hb1).see
      go_wp2_with fail
      go_ret
      exact ⟨ret_bool E.out, z0.out.trans (hb1.mono z0.out.size)⟩
    · have E : Hid (((cl : Int) == x) = rightT ss cl) := Lib.hid ((beq_eq_false_iff_ne.2 c).trans (E2.out c))
      clear E1 E2
      go_enter Try.func26, Try.ntmps26
      go_wp2_with fail
      rw [hwB.out]
      refine C1.out.mono ?_
      rintro e w1 ⟨rfl, hb1⟩
      obtain ⟨j0, j1, -, -⟩ := (J.out.kept hb1).see
      go_wp2_with fail
      go_ret
      exact ⟨ret_bool E.out, z0.out.trans (hb1.mono z0.out.size)⟩

/-- Both tensors are valid and have the same shape. -/
def alikeT (s1 : List Int) (n1 : Nat) (s2 : List Int) (n2 : Nat) : Bool := rightT s1 n1 && rightT s2 n2 && sameL s1 s2

theorem row_far {w : World} {B : Nat} {e : TypeId} {k : Nat} {v : Value} {n : Nat} {xs : List Value} {p : Addr} {u : Value} (h : w.ownsRow B e k v n xs) (hp : p.block < B) : (w.setCell p u).ownsRow B e k v n xs := by
  rcases h.2 with h2 | ⟨g, cap, cur, hv, hbg, hg, rest⟩
  · exact ⟨h.1, .inl h2⟩
  · exact ⟨h.1, .inr ⟨g, cap, cur, hv, hbg, (Below.heap_setCell w p u g (by omega)).trans hg, rest⟩⟩

/-- A new tensor; all that was there before is as it was. -/
def NewT (w : World) (sl : Nat) (ss : List Int) (cl : Nat) (cs : List Int) (v : Value) (w' : World) : Prop :=
  ∃ A c A' c', v = .agg #[.slice A sl c, .slice A' cl c'] ∧ w'.ownsRow w.heap.size 3 1 (.slice A sl c) sl (ss.map (Value.int .i64)) ∧ w'.ownsRow w.heap.size 35 1 (.slice A' cl c') cl (cs.map (Value.int .i64)) ∧
    (∀ p q, A = some p → A' = some q → p.block ≠ q.block) ∧ Below w.heap.size w w'

set_option maxHeartbeats 4000000 in
theorem tcopy_any (sa : Option Addr) (sl sc : Nat) (ss : List Int) (ca : Option Addr) (cl cc : Nat) (cs : List Int) (w : World)
    (h : IntsAt w sa sl ss) (hs : sl ≤ 1000) (h2 : IntsAt w ca cl cs) (hl : cl ≤ 1000) :
    Calls Try.prog 37 #[.agg #[.slice sa sl sc, .slice ca cl cc]] w fun e w' => ∃ v, e = .returned v ∧ NewT w sl ss cl cs v w' := by
  obtain ⟨wA, hwA, J1, z1, n1⟩ := grid_box w (.slice sa sl sc) (.slice ca cl cc)
  obtain ⟨wB, hwB, J2, z2, n2⟩ := grid_box wA (.slice none 0 0) (.slice none 0 0)
  have z := Lib.hid (z1.out.trans (z2.out.mono z1.out.size))
  have J := Lib.hid (J1.out.kept z2.out)
  have C := Lib.hid (fun w1 (hb : Below wB.heap.size wB w1) => copy_any sa sl sc ss w1 ((h.kept z.out).kept hb) hs)
  have D := Lib.hid (fun w1 (hb : Below wB.heap.size wB w1) => cloneF_any ca cl cc cs w1 ((h2.kept z.out).kept hb) hl)
  clear h h2 J1
  go_enter Try.func37, Try.ntmps37
  go_wp2_with fail
  rw [hwA.out, hwB.out]
  have t0 : Below wB.heap.size wB wB.drew := (Below.refl _ _).drew
  have t0' := Lib.hid t0
  have SK := Lib.hid (fun w' (hb : Below wB.heap.size wB w') => (⟨(J.out.kept hb).see.1, (J.out.kept hb).see.2.1⟩ : w'.cell? ⟨w.heap.size, 0, none⟩ = some (.slice sa sl sc) ∧ w'.cell? ⟨w.heap.size, 1, none⟩ = some (.slice ca cl cc)))
  have u0 := SK.out _ (Below.refl _ _)
  have u1 := SK.out _ t0
  clear t0
  go_region_held3 (fun w' => w'.cell? ⟨w.heap.size, 0, none⟩ = some (.slice sa sl sc) ∧ w'.cell? ⟨w.heap.size, 1, none⟩ = some (.slice ca cl cc))
    (first | exact u0 | exact u1 | exact u2 | exact u3 | go_keep)
    ((first
      | (go_at_call 45; refine (C.out _ t0'.out).mono ?_; rintro e w2 ⟨A, c, rfl, ho2, hb2⟩; have b2 := Lib.hid (t0'.out.trans (hb2.mono (Nat.le_refl _))); have u2 := SK.out w2 b2.out; have ho2' := Lib.hid ho2; have hb2' := Lib.hid hb2; clear ho2 hb2)
      | (go_at_call 46; refine (D.out _ b2.out).mono ?_; rintro e w3 ⟨A', c', rfl, ho3, hb3⟩; have u3 := SK.out w3 (b2.out.trans (hb3.mono b2.out.size)); have ho3' := Lib.hid ho3; have hb3' := Lib.hid hb3; clear ho3 hb3; obtain ⟨e0, e1, f0, f1⟩ := (J2.out.kept (b2.out.trans (hb3'.out.mono b2.out.size))).see; rw [n1.out] at e0 e1 f0 f1)))
  clear u0 u1 u2 u3
  have g2 : Below w2.heap.size w2 w3 := hb3'.out
  have sz : w.heap.size + 1 < wB.heap.size := by have h1 := n1.out; have h2 := n2.out; omega
  have sz2 : wB.heap.size ≤ w2.heap.size := b2.out.size
  have g3 : Below w.heap.size w w3 := z.out.trans ((b2.out.trans (g2.mono b2.out.size)).mono z.out.size)
  have J3 : GAt w3 (w.heap.size + 1) (.slice none 0 0) (.slice none 0 0) := by rw [← n1.out]; exact J2.out.kept (b2.out.trans (g2.mono b2.out.size))
  obtain ⟨h0, h1, -, -⟩ := (J3.set (.slice A sl c) (.slice A' cl c')).see
  have P : NewT w sl ss cl cs (.agg #[.slice A sl c, .slice A' cl c']) ((w3.setCell ⟨w.heap.size + 1, 0, none⟩ (.slice A sl c)).setCell ⟨w.heap.size + 1, 1, none⟩ (.slice A' cl c')) := by
    refine ⟨A, c, A', c', rfl, Joins.ownsRow_le (row_far (row_far (row_kept ho2'.out g2) ?_) ?_) ?_, Joins.ownsRow_le (row_far (row_far ho3'.out ?_) ?_) ?_, ?_, (g3.setCell ?_ _).setCell ?_ _⟩
    · exact sz
    · exact sz
    · exact z.out.size
    · exact Nat.lt_of_lt_of_le sz sz2
    · exact Nat.lt_of_lt_of_le sz sz2
    · exact Nat.le_trans z.out.size sz2
    · rintro p q rfl rfl
      have x1 := (ho2'.out.lt p.block rfl).2
      have x2 := (ho3'.out.lt q.block rfl).1
      omega
    · exact Nat.le_add_right _ _
    · exact Nat.le_add_right _ _
  obtain ⟨w4, hw4⟩ : ∃ w4, (w3.setCell ⟨w.heap.size + 1, 0, none⟩ (.slice A sl c)).setCell ⟨w.heap.size + 1, 1, none⟩ (.slice A' cl c') = w4 := ⟨_, rfl⟩
  rename_i hHeld
  clear hHeld
  rw [hw4] at P h0 h1 ⊢
  have P' := Lib.hid P
  clear P g2 sz sz2 g3 J3 e0 e1 f0 f1 hw4
  go_wp2_with fail
  refine bodyPost_ret (v := .agg #[.slice A sl c, .slice A' cl c']) ?_ rfl ⟨_, rfl, P'.out⟩
  simp [results, Try.results37, go_sem, h0, h1]
end Go.Proofs.Ytieegaojcjhfdaa

/-
  Contracts of package tensor: place, Get, With, Of.
-/
namespace Go.Proofs.Ytieegaojcjhfdaa
open Go.RowKit
set_option linter.unusedVariables false
set_option linter.unusedSimpArgs false

def tplaceN (ss : List Int) (n : Nat) (l : List Int) : Int := if rightT ss n = true then placeN ss l else 0
def tplaceE (ss : List Int) (n : Nat) (l : List Int) : Int := if rightT ss n = true then placeE ss l else 20
theorem tplace_no {ss : List Int} {n : Nat} {l : List Int} (h : rightT ss n = false) : 0 = tplaceN ss n l ∧ 20 = tplaceE ss n l := by simp [tplaceN, tplaceE, h]
theorem tplace_yes {ss : List Int} {n : Nat} {l : List Int} (h : rightT ss n = true) : placeN ss l = tplaceN ss n l ∧ placeE ss l = tplaceE ss n l := by simp [tplaceN, tplaceE, h]

/-- Where there is such a place it is one of the cells. -/
theorem tplace_cell {ss : List Int} {n : Nat} {l : List Int} (h : tplaceE ss n l = 0) : ∃ k : Nat, k < n ∧ tplaceN ss n l = k := by
  unfold tplaceE at h
  by_cases hr : rightT ss n = true
  · rw [if_pos hr] at h
    obtain ⟨h1, h2⟩ := rightT_parts hr
    unfold placeE at h
    rw [if_pos h1] at h
    by_cases ha : atOk ss l = true
    · obtain ⟨p1, p2⟩ := numP_lt h1 ha
      refine ⟨(numP (ss.zip l)).toNat, by omega, ?_⟩
      simp only [tplaceN, placeN, hr, h1, ha, and_self, if_true]
      omega
    · rw [if_neg ha] at h; omega
  · rw [if_neg hr] at h; omega
theorem tplace_none {ss : List Int} {n : Nat} {l : List Int} (h : tplaceE ss n l ≠ 0) : tplaceN ss n l = 0 := by
  unfold tplaceE at h
  unfold tplaceN
  by_cases hr : rightT ss n = true
  · rw [if_pos hr] at h ⊢
    obtain ⟨h1, h2⟩ := rightT_parts hr
    unfold placeE at h
    unfold placeN
    rw [if_pos h1] at h
    by_cases ha : atOk ss l = true
    · rw [if_pos ha] at h; exact absurd rfl h
    · rw [if_neg (fun hh => ha hh.2)]
  · rw [if_neg hr]

/-- No tensor and this error. -/
def NilT (w : World) (x : Int) (e : Ending) (w' : World) : Prop := e = .returned (.tuple #[.agg #[.slice none 0 0, .slice none 0 0], .int .i64 x]) ∧ Below w.heap.size w w'
/-- A new tensor and no error. -/
def OkT (w : World) (sl : Nat) (ss : List Int) (cl : Nat) (cs : List Int) (e : Ending) (w' : World) : Prop := ∃ v, e = .returned (.tuple #[v, .int .i64 0]) ∧ NewT w sl ss cl cs v w'

end Go.Proofs.Ytieegaojcjhfdaa
/-
  Contracts of package tensor: With, Of.
-/
namespace Go.Proofs.Ytieegaojcjhfdaa
open Go.RowKit
set_option linter.unusedVariables false
set_option linter.unusedSimpArgs false

theorem row_apart {w : World} {B : Nat} {e : TypeId} {k : Nat} {v : Value} {n : Nat} {xs : List Value} {p : Addr} {u : Value} (h : w.ownsRow B e k v n xs) (hp : ∀ q, v.ownBlock = some q → q ≠ p.block) : (w.setCell p u).ownsRow B e k v n xs := by
  rcases h.2 with h2 | ⟨g, cap, cur, hv, hbg, hg, rest⟩
  · exact ⟨h.1, .inl h2⟩
  · exact ⟨h.1, .inr ⟨g, cap, cur, hv, hbg, (Below.heap_setCell w p u g (hp g (by rw [hv]; rfl))).trans hg, rest⟩⟩

set_option maxHeartbeats 2000000 in
theorem of_no (sa : Option Addr) (sl sc : Nat) (ss : List Int) (ca : Option Addr) (cl cc : Nat) (w : World) (h : IntsAt w sa sl ss) (hl : cl ≤ 9223372036854775807) (hr : rightT ss cl = false) :
    Calls Try.prog 24 #[.slice sa sl sc, .slice ca cl cc] w (NilT w 20) := by
  obtain ⟨wA, hwA, J1, z1, n1⟩ := grid_box w (.slice none 0 0) (.slice none 0 0)
  obtain ⟨wB, hwB, J2, z2, n2⟩ := grid_box wA (.slice sa sl sc) (.slice ca cl cc)
  rw [n1.out] at J2
  have z := Lib.hid (z1.out.trans (z2.out.mono z1.out.size))
  have J := Lib.hid (J1.out.kept z2.out)
  have C := tright_any sa sl sc ss ca cl cc wB (h.kept z.out) hl
  rw [hr] at C
  have C1 := Lib.hid C
  clear h J1 C hr
  obtain ⟨j0, j1, -, -⟩ := J2.out.see
  go_enter Try.func24, Try.ntmps24
  go_upto_region 2 with (fail)
  rw [hwA.out, hwB.out]
  go_wp2_with fail
  refine C1.out.mono ?_
  rintro e w1 ⟨rfl, hb1⟩
  obtain ⟨e0, e1, f0, f1⟩ := (J.out.kept hb1).see
  obtain ⟨h0, h1, -, -⟩ := ((J.out.kept hb1).set (.slice none 0 0) (.slice none 0 0)).see
  have Z : Below w.heap.size w ((w1.setCell ⟨w.heap.size, 0, none⟩ (.slice none 0 0)).setCell ⟨w.heap.size, 1, none⟩ (.slice none 0 0)) :=
    ((z.out.trans (hb1.mono z.out.size)).setCell (Nat.le_refl _) _).setCell (Nat.le_refl _) _
  go_wp2_with fail
  refine bodyPost_ret (v := .tuple #[.agg #[.slice none 0 0, .slice none 0 0], .int .i64 20]) ?_ rfl ⟨rfl, Z⟩
  simp [results, Try.results24, go_sem, h0, h1]

set_option maxHeartbeats 2000000 in
theorem of_ok (sa : Option Addr) (sl sc : Nat) (ss : List Int) (ca : Option Addr) (cl cc : Nat) (cs : List Int) (w : World) (h : IntsAt w sa sl ss) (hs : sl ≤ 1000) (hc : IntsAt w ca cl cs) (hl : cl ≤ 1000) (hr : rightT ss cl = true) :
    Calls Try.prog 24 #[.slice sa sl sc, .slice ca cl cc] w (OkT w sl ss cl cs) := by
  obtain ⟨wA, hwA, J1, z1, n1⟩ := grid_box w (.slice none 0 0) (.slice none 0 0)
  obtain ⟨wB, hwB, J2, z2, n2⟩ := grid_box wA (.slice sa sl sc) (.slice ca cl cc)
  rw [n1.out] at J2
  have z := Lib.hid (z1.out.trans (z2.out.mono z1.out.size))
  have J := Lib.hid (J1.out.kept z2.out)
  have C := tright_any sa sl sc ss ca cl cc wB (h.kept z.out) (by omega)
  have D := Lib.hid (fun w1 (hb : Below wB.heap.size wB w1) => tcopy_any sa sl sc ss ca cl cc cs w1 ((h.kept z.out).kept hb) hs ((hc.kept z.out).kept hb) hl)
  rw [hr] at C
  have C1 := Lib.hid C
  clear h hc J1 C hr
  obtain ⟨j0, j1, -, -⟩ := J2.out.see
  go_enter Try.func24, Try.ntmps24
  go_upto_region 2 with (fail)
  rw [hwA.out, hwB.out]
  go_wp2_with fail
  refine C1.out.mono ?_
  rintro e w1 ⟨rfl, hb1⟩
  obtain ⟨k0, k1, -, -⟩ := (J2.out.kept hb1).see
  go_wp2_with fail
  refine (D.out w1 hb1).mono ?_
  rintro e w2 ⟨v', rfl, A, c, A', c', rfl, ho1, ho2, hne, hb2⟩
  have hb12 := hb1.trans (hb2.mono hb1.size)
  obtain ⟨e0, e1, f0, f1⟩ := (J.out.kept hb12).see
  obtain ⟨h0, h1, -, -⟩ := ((J.out.kept hb12).set (.slice A sl c) (.slice A' cl c')).see
  have hw1 : w.heap.size < w1.heap.size := by have := n1.out; have := n2.out; have := hb1.size; omega
  have P : NewT w sl ss cl cs (.agg #[.slice A sl c, .slice A' cl c']) ((w2.setCell ⟨w.heap.size, 0, none⟩ (.slice A sl c)).setCell ⟨w.heap.size, 1, none⟩ (.slice A' cl c')) :=
    ⟨A, c, A', c', rfl, Joins.ownsRow_le (row_far (row_far ho1 hw1) hw1) (Nat.le_of_lt hw1), Joins.ownsRow_le (row_far (row_far ho2 hw1) hw1) (Nat.le_of_lt hw1), hne,
      ((z.out.trans (hb12.mono z.out.size)).setCell (Nat.le_refl _) _).setCell (Nat.le_refl _) _⟩
  have P' := Lib.hid P
  clear P ho1 ho2 hne hb12 k0 k1 hw1
  go_wp2_with fail
  refine bodyPost_ret (v := .tuple #[.agg #[.slice A sl c, .slice A' cl c'], .int .i64 0]) ?_ rfl ⟨_, rfl, P'.out⟩
  simp [results, Try.results24, go_sem, h0, h1]
end Go.Proofs.Ytieegaojcjhfdaa

/-
  Contracts of package tensor: Equal (its deferred closure finds no panic), Make.
-/
namespace Go.Proofs.Ytieegaojcjhfdaa
open Go.RowKit
set_option linter.unusedVariables false
set_option linter.unusedSimpArgs false

theorem catch_idle (p : Addr) (w : World) :
    CallsD Try.prog 29 #[.pointer (some p)] .returning w fun e u' w' => e = .returned (.tuple #[]) ∧ u' = .returning ∧ w' = w := by
  refine callsD_of_wpS Try.func29 rfl fun c₀ cs hu => ?_
  apply wpS_seq
  apply wpS_region
  simp [wpOpsS, go_sem, recoverD, hu, Try.ntmps29, Exit.thenS]
  refine wpS_cond (t := false) (by simp [Act.eval, Array.replicate]) ?_
  simp only [Bool.false_eq_true, if_false]
  refine wpS_of_wp (wp_skip ?_)
  cases c₀
  simp_all [bodyPostS, results, Try.results29]

/-- Both tensors have the same shape and the same cells. -/
def sameT (s1 c1 s2 c2 : List Int) : Bool := sameL s1 s2 && sameL c1 c2

theorem bool_box (w : World) (x : Bool) : ∃ wB, Hid (w.alloc (.cells #[.bool x] 4) = wB) ∧ Hid (wB.heap[w.heap.size]? = some (.cells #[.bool x] 4 (0, 0))) ∧ Hid (Below w.heap.size w wB) ∧ Hid (wB.heap.size = w.heap.size + 1) :=
  ⟨_, Lib.hid rfl, Lib.hid (World.alloc_heap_new w _), Lib.hid ((Below.refl _ _).alloc (Nat.le_refl _) _), Lib.hid (by simp)⟩

set_option maxHeartbeats 2000000 in
theorem tequal_any (sa : Option Addr) (sl sc : Nat) (ss : List Int) (ca : Option Addr) (cl cc : Nat) (cs : List Int) (sa2 : Option Addr) (sl2 sc2 : Nat) (ss2 : List Int) (ca2 : Option Addr) (cl2 cc2 : Nat) (cs2 : List Int) (w : World)
    (h : IntsAt w sa sl ss) (hc : IntsAt w ca cl cs) (h2 : IntsAt w sa2 sl2 ss2) (hc2 : IntsAt w ca2 cl2 cs2) :
    Calls Try.prog 13 #[.agg #[.slice sa sl sc, .slice ca cl cc], .agg #[.slice sa2 sl2 sc2, .slice ca2 cl2 cc2]] w fun e w' => e = .returned (.bool (sameT ss cs ss2 cs2)) ∧ Below w.heap.size w w' := by
  have hmf : ∀ (fn : Fn) (first cap : Array Value) (w : World), (Instr.makeFunc fn first cap).run Try.prog w = .ok (.func fn first cap) w := fun _ _ _ _ => rfl
  obtain ⟨wA, hwA, J1, z1, n1⟩ := grid_box w (.slice sa sl sc) (.slice ca cl cc)
  obtain ⟨wB, hwB, J2, z2, n2⟩ := grid_box wA (.slice sa2 sl2 sc2) (.slice ca2 cl2 cc2)
  obtain ⟨wC, hwC, J3, z3, n3⟩ := bool_box wB false
  rw [n1.out] at J2
  rw [n2.out, n1.out] at J3
  have z12 := z1.out.trans (z2.out.mono z1.out.size)
  have z := Lib.hid (z12.trans (z3.out.mono z12.size))
  have J1' := Lib.hid ((J1.out.kept z2.out).kept z3.out)
  have J2' := Lib.hid (J2.out.kept z3.out)
  have F := equal_any sa sl sc ss sa2 sl2 sc2 ss2 wC (h.kept z.out) (h2.kept z.out)
  have G := Lib.hid (fun n => sliceEqualF_any ca cl cc cs ca2 cl2 cc2 cs2 (wC.drewN n) ((hc.kept z.out).kept (below_drewN' (Below.refl _ _) n)) ((hc2.kept z.out).kept (below_drewN' (Below.refl _ _) n)))
  clear h hc h2 hc2 z12 J1 J2
  have b0 : wC.cell? ⟨w.heap.size + 1 + 1, 0, none⟩ = some (.bool false) := by rw [Joins.cell_of_block J3.out]; rfl
  have b1 : wC.frozen? ⟨w.heap.size + 1 + 1, 0, none⟩ = false := Joins.unfrozen_of_block J3.out 0
  have L : Hid (∀ (n : Nat) (x : Bool), ((wC.drewN n).setCell ⟨w.heap.size + 1 + 1, 0, none⟩ (.bool x)).cell? ⟨w.heap.size + 1 + 1, 0, none⟩ = some (.bool x) ∧ Below w.heap.size w ((wC.drewN n).setCell ⟨w.heap.size + 1 + 1, 0, none⟩ (.bool x))) := Lib.hid (fun n x => by
    refine ⟨?_, (below_drewN' z.out n).setCell (by show w.heap.size ≤ w.heap.size + 1 + 1; omega) _⟩
    have h1 := Joins.block_setCell (w := wC.drewN n) (i := 0) J3.out (.bool x)
    rw [Joins.cell_of_block h1]; rfl)
  obtain ⟨i0, i1, -, -⟩ := J1'.out.see
  obtain ⟨j0, j1, -, -⟩ := J2'.out.see
  cases b : sameL ss ss2
  · rw [b] at F
    have F1 := Lib.hid F
    have E : Hid (sameT ss cs ss2 cs2 = false) := Lib.hid (by simp [sameT, b])
    rw [E.out]
    clear F b G E
    go_enter_defers Try.func13, Try.ntmps13
    go_upto_region 2 with (fail)
    rw [hwA.out, hwB.out, hwC.out]
    go_wp2_with fail
    refine F1.out.mono ?_
    rintro e w1 ⟨rfl, n, rfl⟩
    go_wp2_with fail
    obtain ⟨l0, l1⟩ := L.out n false
    have l1' := Lib.hid l1
    clear l1
    obtain ⟨w4, hw4⟩ : ∃ w4, (wC.drewN n).setCell ⟨w.heap.size + 1 + 1, 0, none⟩ (.bool false) = w4 := ⟨_, rfl⟩
    rw [hw4] at l0 l1' ⊢
    refine leaves_cons (f := 29) (args := #[.pointer (some ⟨w.heap.size + 1 + 1, 0, none⟩)]) (by simp) (by simp [go_sem]) ?_
    refine (catch_idle ⟨w.heap.size + 1 + 1, 0, none⟩ _).mono ?_
    rintro e u' w'' ⟨rfl, rfl, rfl⟩
    simp [Leaves, settle, results, Try.results13, go_sem, l0]
    exact l1'.out
  · rw [b] at F
    have F1 := Lib.hid F
    have E : Hid (sameT ss cs ss2 cs2 = sameL cs cs2) := Lib.hid (by simp [sameT, b])
    rw [E.out]
    clear F b E
    obtain ⟨x, hx⟩ : ∃ x, sameL cs cs2 = x := ⟨_, rfl⟩
    rw [hx] at G ⊢
    clear hx
    go_enter_defers Try.func13, Try.ntmps13
    go_upto_region 2 with (fail)
    rw [hwA.out, hwB.out, hwC.out]
    go_wp2_with fail
    refine F1.out.mono ?_
    rintro e w1 ⟨rfl, n, rfl⟩
    go_wp2_with fail
    refine (G.out n).mono ?_
    rintro e w1 ⟨rfl, m, rfl⟩
    go_wp2_with fail
    obtain ⟨l0, l1⟩ := L.out (n + m) x
    have l1' := Lib.hid l1
    clear l1
    obtain ⟨w4, hw4⟩ : ∃ w4, (wC.drewN (n + m)).setCell ⟨w.heap.size + 1 + 1, 0, none⟩ (.bool x) = w4 := ⟨_, rfl⟩
    rw [hw4] at l0 l1' ⊢
    refine leaves_cons (f := 29) (args := #[.pointer (some ⟨w.heap.size + 1 + 1, 0, none⟩)]) (by simp) (by simp [go_sem]) ?_
    refine (catch_idle ⟨w.heap.size + 1 + 1, 0, none⟩ _).mono ?_
    rintro e u' w'' ⟨rfl, rfl, rfl⟩
    simp [Leaves, settle, results, Try.results13, go_sem, l0]
    exact l1'.out

theorem f_made (t : TypeId) (ht : Try.prog.underlying t = some (.slice 35)) (len : Nat) (hl : len ≤ 65536) : ∀ w, (Instr.makeSlice t (.int .i64 len) (.int .i64 len)).run Try.prog w = .ok (.slice (some ⟨w.heap.size, 0, none⟩) len len) (w.alloc (.cells (madeCells #[.int .i64 0] len) 35)) := by
  intro w
  obtain ⟨i0, hi, hz0, hz1, hz2⟩ := info_parts fInfo
  have := run_make (P := Try.prog) w t 35 i0 _ ht hi hz0 .i64 .i64 len len (by omega) (by omega) (by rw [hz2]; omega) (by omega)
  rw [this, hz1]
  simp [Value.cells]

set_option maxHeartbeats 1000000 in
theorem make_no (sa : Option Addr) (sl sc : Nat) (ss : List Int) (x : Int) (w : World) (h : IntsAt w sa sl ss) (hr : rightS ss = false) :
    Calls Try.prog 35 #[.slice sa sl sc, .int .i64 x] w (NilT w 20) := by
  obtain ⟨wA, hwA, J1, z1, n1⟩ := grid_box w (.slice none 0 0) (.slice none 0 0)
  have C := size_any sa sl sc ss wA (h.kept z1.out)
  rw [sizeE_no hr, sizeN_no hr] at C
  have C1 := Lib.hid C
  clear C h hr
  go_enter Try.func35, Try.ntmps35
  go_upto_region 1 with (fail)
  rw [hwA.out]
  go_wp2_with fail
  refine C1.out.mono ?_
  rintro e w1 ⟨rfl, hb1⟩
  obtain ⟨e0, e1, f0, f1⟩ := (J1.out.kept hb1).see
  obtain ⟨h0, h1, -, -⟩ := ((J1.out.kept hb1).set (.slice none 0 0) (.slice none 0 0)).see
  have Z : Below w.heap.size w ((w1.setCell ⟨w.heap.size, 0, none⟩ (.slice none 0 0)).setCell ⟨w.heap.size, 1, none⟩ (.slice none 0 0)) :=
    ((z1.out.trans (hb1.mono z1.out.size)).setCell (Nat.le_refl _) _).setCell (Nat.le_refl _) _
  go_wp2_with fail
  refine bodyPost_ret (v := .tuple #[.agg #[.slice none 0 0, .slice none 0 0], .int .i64 20]) ?_ rfl ⟨rfl, Z⟩
  simp [results, Try.results35, go_sem, h0, h1]

/-- A row of n numbers, of which the first k are x, the rest 0. -/
def fillR (n k : Nat) (x : Int) : List Int := List.replicate k x ++ List.replicate (n - k) 0
theorem fillR_none (n : Nat) (x : Int) : fillR n 0 x = List.replicate n 0 := by simp [fillR]
theorem fillR_all (n : Nat) (x : Int) : fillR n n x = List.replicate n x := by simp [fillR]
theorem fillR_length {n k : Nat} (x : Int) (h : k ≤ n) : (fillR n k x).length = n := by simp [fillR]; omega
theorem fillR_set {n k : Nat} (x : Int) (h : k < n) : (fillR n k x).set k x = fillR n (k + 1) x := by
  unfold fillR
  rw [List.set_append_right _ _ (by simp), List.length_replicate, Nat.sub_self, show n - k = (n - (k + 1)) + 1 by omega, List.replicate_succ, List.set_cons_zero, List.replicate_succ']
  simp

set_option maxHeartbeats 2000000 in
theorem make_ok (sa : Option Addr) (sl sc : Nat) (ss : List Int) (x : Int) (w : World) (h : IntsAt w sa sl ss) (hr : rightS ss = true) (N : Nat) (hN : prodI ss = N) :
    Calls Try.prog 35 #[.slice sa sl sc, .int .i64 x] w (OkT w sl ss N (List.replicate N x)) := by
  obtain ⟨wA, hwA, J1, z1, n1⟩ := grid_box w (.slice none 0 0) (.slice none 0 0)
  have C := size_any sa sl sc ss wA (h.kept z1.out)
  rw [sizeE_yes hr, sizeN_yes hr, hN] at C
  have C1 := Lib.hid C
  have hl4 : sl ≤ 4 := by have := (rightS_parts hr).2.1; have := h.1; omega
  have hN6 : N ≤ 65536 := by have := (rightS_parts hr).2.2.2; omega
  have D := Lib.hid (fun w1 (hb : Below wA.heap.size wA w1) => copy_any sa sl sc ss w1 ((h.kept z1.out).kept hb) (by omega))
  have hmk := f_made 27 Try.underlying27 N hN6
  clear C h hr hN
  go_enter Try.func35, Try.ntmps35
  go_upto_region 1 with (fail)
  rw [hwA.out]
  go_wp2_with fail
  refine C1.out.mono ?_
  rintro e w1 ⟨rfl, hb1⟩
  go_upto_region 5 with (fail)
  obtain ⟨w2, hw2⟩ : ∃ w2, w1.alloc (.cells (madeCells #[.int .i64 0] N) 35) = w2 := ⟨_, rfl⟩
  have ho : Hid (w2.ownsRow w1.heap.size 35 1 (.slice (some ⟨w1.heap.size, 0, none⟩) N N) N ((fillR N 0 x).map (Value.int .i64))) := by
    have := World.ownsRow_lit w1 (base := w1.heap.size) (e := 35) (size := 1) (madeCells #[.int .i64 0] N) N (Nat.le_refl _) (by unfold maxLen; omega) (by rw [size_madeCells]; omega)
    rw [toList_madeCells_one, hw2] at this
    rw [fillR_none]
    refine Lib.hid ?_
    simpa using this
  have zb : Below w1.heap.size w1 w2 := by rw [← hw2]; exact (Below.refl _ _).alloc (Nat.le_refl _) _
  have hb2 := Lib.hid zb
  rw [hw2]
  clear hw2 zb hmk C1
  go_wp2_with fail
  go_loopw [23] (fun i wr => ∃ k : Nat, k ≤ N ∧ i = .int .i64 k ∧ Hid (wr.ownsRow w1.heap.size 35 1 (.slice (some ⟨w1.heap.size, 0, none⟩) N N) N ((fillR N k x).map (Value.int .i64))) ∧ Hid (Below w1.heap.size w1 wr)) (fun i _ => N - (intOf i).toNat)
  case atStart => exact ⟨0, Nat.zero_le _, rfl, ho, hb2⟩
  case round =>
    obtain ⟨k, hk, rfl, hrow, hbr⟩ := hrel
    by_cases hlt : k < N
    · obtain ⟨y, hy⟩ : ∃ y, wr.cell? ⟨w1.heap.size, k, none⟩ = some y := by
        have e : wr.cell? ⟨w1.heap.size, k, none⟩ = ((fillR N k x).map (Value.int .i64))[k]? := hrow.out.cellAt k (by omega)
        rw [List.getElem?_eq_getElem (by rw [List.length_map, fillR_length x hk]; exact hlt)] at e
        exact ⟨_, e⟩
      have hf := hrow.out.frozenAt k
      obtain ⟨ho4, hg4⟩ := hrow.out.stored k (.int .i64 x)
      rw [← List.map_set, fillR_set x hlt] at ho4
      have ho4' := Lib.hid ho4
      have hb4 := Lib.hid (hbr.out.setCell (p := ⟨w1.heap.size, k, none⟩) (Nat.le_refl _) (.int .i64 x))
      clear ho4 hg4
      go_wp2_with fail
      go_roundw
      case rel => exact ⟨k + 1, by omega, by go_num, ho4', hb4⟩
      case measure => (simp [intOf]; try omega)
    · obtain rfl : k = N := by omega
      rw [fillR_all] at hrow
      have hb3 := Lib.hid (hb1.trans (hbr.out.mono hb1.size))
      go_wp2_with fail
      refine (D.out wr hb3.out).mono ?_
      rintro e w4 ⟨A, c, rfl, ho5, hb5⟩
      have hb6 := hb3.out.trans (hb5.mono hb3.out.size)
      have J2 := J1.out.kept hb6
      obtain ⟨e0, e1, f0, f1⟩ := J2.see
      obtain ⟨h0, h1, -, -⟩ := (J2.set (.slice A sl c) (.slice (some ⟨w1.heap.size, 0, none⟩) k k)).see
      have hw1 : w.heap.size < w1.heap.size := by have := n1.out; have := hb1.size; omega
      have hw4 : w1.heap.size < wr.heap.size := by
        by_cases h0 : 0 < k
        · exact (hrow.out.lt w1.heap.size rfl).2
        · exact (hrow.out.lt w1.heap.size rfl).2
      have P : NewT w sl ss k (List.replicate k x) (.agg #[.slice A sl c, .slice (some ⟨w1.heap.size, 0, none⟩) k k]) ((w4.setCell ⟨w.heap.size, 0, none⟩ (.slice A sl c)).setCell ⟨w.heap.size, 1, none⟩ (.slice (some ⟨w1.heap.size, 0, none⟩) k k)) := by
        refine ⟨A, c, _, k, rfl, Joins.ownsRow_le (row_far (row_far ho5 ?_) ?_) ?_, Joins.ownsRow_le (row_far (row_far (row_kept hrow.out hb5) hw1) hw1) (Nat.le_of_lt hw1), ?_, ?_⟩
        · exact Nat.lt_trans hw1 hw4
        · exact Nat.lt_trans hw1 hw4
        · exact Nat.le_of_lt (Nat.lt_trans hw1 hw4)
        · rintro p q rfl hq
          cases hq
          have := (ho5.lt p.block rfl).1
          show p.block ≠ w1.heap.size
          omega
        · exact ((z1.out.trans (hb6.mono z1.out.size)).setCell (Nat.le_refl _) _).setCell (Nat.le_refl _) _
      have P' := Lib.hid P
      clear P ho5 hb5 hb6 J2 hw1 hw4
      go_wp2_with fail
      refine bodyPost_ret (v := .tuple #[.agg #[.slice A sl c, .slice (some ⟨w1.heap.size, 0, none⟩) k k], .int .i64 0]) ?_ rfl ⟨_, rfl, P'.out⟩
      simp [results, Try.results35, go_sem, h0, h1]
end Go.Proofs.Ytieegaojcjhfdaa

/-
  Plain mathematics of saturating fixed-point numbers: rounding to the nearest, ties to even; saturation. No program is named here.
-/
namespace Go.Proofs.Ytieegaojcjhfdaa
set_option linter.unusedVariables false
set_option linter.unusedSimpArgs false

/-- The magnitude. -/
def mag (x : Int) : Int := if x < 0 then -x else x
theorem mag_bounds (x : Int) (h1 : -9223372036854775808 ≤ x) (h2 : x ≤ 9223372036854775807) : 0 ≤ mag x ∧ mag x ≤ 9223372036854775808 := by
  unfold mag; split <;> omega
theorem mag_neg (x : Int) (h : x < 0) : mag x = -x := by unfold mag; rw [if_pos h]
theorem mag_pos (x : Int) (h : 0 ≤ x) : mag x = x := by unfold mag; rw [if_neg (by omega)]

/-- The number with a sign and a magnitude, saturated. -/
def sgn (neg : Bool) (m : Int) : Int :=
  if m < 9223372036854775808 then (if neg then -m else m) else if neg then -9223372036854775808 else 9223372036854775807

/-- Rounding up is due: the rest is more than half of the unit, or just half and the whole is odd. -/
def up (whole rest unit : Int) : Bool := decide (unit < 2 * rest) || (decide (unit = 2 * rest) && decide (whole % 2 = 1))

/-- Rounded to the nearest, ties to even; what is at least 2^63 stays as it is. -/
def rnd (whole rest unit : Int) : Int := if up whole rest unit = true ∧ whole < 9223372036854775808 then whole + 1 else whole

/-- Rounded without the cap. -/
def rndFull (whole rest unit : Int) : Int := if up whole rest unit = true then whole + 1 else whole

theorem sgn_rnd (neg : Bool) (whole rest unit : Int) : sgn neg (rnd whole rest unit) = sgn neg (rndFull whole rest unit) := by
  unfold rnd rndFull
  by_cases hu : up whole rest unit = true
  · by_cases hw : whole < 9223372036854775808
    · simp [hu, hw]
    · have h2 : ¬ whole + 1 < 9223372036854775808 := by omega
      simp [hu, hw, sgn, h2]
  · simp [hu]

theorem sgn_bounds (neg : Bool) (m : Int) (h : 0 ≤ m) : -9223372036854775808 ≤ sgn neg m ∧ sgn neg m ≤ 9223372036854775807 := by
  unfold sgn
  split <;> split <;> omega
theorem sgn_big (neg : Bool) (m : Int) (h : 9223372036854775808 ≤ m) : sgn neg m = if neg then -9223372036854775808 else 9223372036854775807 := by
  unfold sgn; rw [if_neg (by omega)]

/-- Saturation. -/
def sat (z : Int) : Int := if z < -9223372036854775808 then -9223372036854775808 else if 9223372036854775807 < z then 9223372036854775807 else z

theorem sat_bounds (z : Int) : -9223372036854775808 ≤ sat z ∧ sat z ≤ 9223372036854775807 := by
  unfold sat
  split
  · omega
  · split <;> omega
theorem sat_in (z : Int) (h1 : -9223372036854775808 ≤ z) (h2 : z ≤ 9223372036854775807) : sat z = z := by
  unfold sat; rw [if_neg (by omega), if_neg (by omega)]
theorem sat_hi (z : Int) (h2 : 9223372036854775807 ≤ z) : sat z = 9223372036854775807 := by
  unfold sat; rw [if_neg (by omega)]; split <;> omega
theorem sat_lo (z : Int) (h2 : z ≤ -9223372036854775808) : sat z = -9223372036854775808 := by
  unfold sat; split
  · rfl
  · rw [if_neg (by omega)]; omega

/-- The product of two numbers. -/
def mulF (x y : Int) : Int := sgn (decide (x < 0) != decide (y < 0)) (rndFull (mag x * mag y / 4294967296) (mag x * mag y % 4294967296) 4294967296)

/-- The quotient of two numbers. -/
def divF (x y : Int) : Int :=
  if x = 0 then 0
  else if y = 0 then (if x < 0 then -9223372036854775808 else 9223372036854775807)
  else sgn (decide (x < 0) != decide (y < 0)) (rndFull (mag x * 4294967296 / mag y) (mag x * 4294967296 % mag y) (mag y))

theorem mulF_bounds (x y : Int) : -9223372036854775808 ≤ mulF x y ∧ mulF x y ≤ 9223372036854775807 := by
  apply sgn_bounds
  have hx : 0 ≤ mag x := by unfold mag; split <;> omega
  have hy : 0 ≤ mag y := by unfold mag; split <;> omega
  have h : 0 ≤ mag x * mag y := Int.mul_nonneg hx hy
  unfold rndFull
  split <;> omega
theorem divF_bounds (x y : Int) : -9223372036854775808 ≤ divF x y ∧ divF x y ≤ 9223372036854775807 := by
  unfold divF
  split
  · omega
  · split
    · split <;> omega
    · apply sgn_bounds
      have hx : 0 ≤ mag x * 4294967296 := by unfold mag; split <;> omega
      have hy : 0 ≤ mag y := by unfold mag; split <;> omega
      have h : 0 ≤ mag x * 4294967296 / mag y := Int.ediv_nonneg hx hy
      unfold rndFull
      split <;> omega

/-- The magnitude of a product, rounded; 2^63 if it is far too great. -/
def prodF (a b : Int) : Int := if a * b < 79228162514264337593543950336 then rnd (a * b / 4294967296) (a * b % 4294967296) 4294967296 else 9223372036854775808

theorem sgn_prodF (neg : Bool) (a b : Int) : sgn neg (prodF a b) = sgn neg (rndFull (a * b / 4294967296) (a * b % 4294967296) 4294967296) := by
  unfold prodF
  by_cases h : a * b < 79228162514264337593543950336
  · rw [if_pos h, sgn_rnd]
  · rw [if_neg h, sgn_big _ _ (by omega), sgn_big _ _ (by unfold rndFull; split <;> omega)]
theorem prodF_bounds (a b : Int) (h : 0 ≤ a * b) : 0 ≤ prodF a b ∧ prodF a b < 18446744073709551616 := by
  unfold prodF rnd
  split
  · split <;> omega
  · omega

/-- Within bounds; the upper one is compared first. -/
def clampF (x lo hi : Int) : Int := if hi < x then hi else if x < lo then lo else x

/-- A magnitude with a sign; beyond all bounds if over is true. -/
def heldF (n : Int) (over neg : Bool) : Int := sgn neg (if over = true then 9223372036854775808 else n)
theorem heldF_false (n : Int) (neg : Bool) : heldF n false neg = sgn neg n := rfl
theorem heldF_true (n : Int) (neg : Bool) : heldF n true neg = sgn neg 9223372036854775808 := rfl

/-- The magnitude of a quotient, rounded; 2^63 if it is far too great. -/
def quoF (a b : Int) : Int := if a / 4294967296 < b then rnd (a * 4294967296 / b) (a * 4294967296 % b) b else 9223372036854775808

theorem quoF_bounds (a b : Int) (ha : 0 ≤ a) : 0 ≤ quoF a b ∧ (0 ≤ b → quoF a b < 18446744073709551616) := by
  unfold quoF
  by_cases h : a / 4294967296 < b
  · rw [if_pos h]
    have h1 : 0 ≤ a * 4294967296 / b := Int.ediv_nonneg (by omega) (by omega)
    have h2 : a * 4294967296 / b < 18446744073709551616 := by
      rw [Int.ediv_lt_iff_lt_mul (by omega)]; omega
    unfold rnd
    split <;> exact ⟨by omega, fun _ => by omega⟩
  · rw [if_neg h]; exact ⟨by omega, fun _ => by omega⟩

theorem sgn_quoF (neg : Bool) (a b : Int) (ha : 0 ≤ a) (hb : 0 < b) : sgn neg (quoF a b) = sgn neg (rndFull (a * 4294967296 / b) (a * 4294967296 % b) b) := by
  unfold quoF
  by_cases h : a / 4294967296 < b
  · rw [if_pos h, sgn_rnd]
  · rw [if_neg h, sgn_big _ _ (by omega)]
    have h1 : 9223372036854775808 ≤ a * 4294967296 / b := by
      rw [Int.le_ediv_iff_mul_le hb]; omega
    rw [sgn_big _ _ (by unfold rndFull; split <;> omega)]
theorem sgn_quoF_zero (neg : Bool) (a : Int) (ha : 0 ≤ a) : sgn neg (quoF a 0) = if neg then -9223372036854775808 else 9223372036854775807 := by
  unfold quoF
  rw [if_neg (by omega), sgn_big _ _ (by omega)]
theorem divF_eq (x y : Int) (hx : x ≠ 0) : sgn (decide (x < 0) != decide (y < 0)) (quoF (mag x) (mag y)) = divF x y := by
  have mx : 0 ≤ mag x := by unfold mag; split <;> omega
  unfold divF
  rw [if_neg hx]
  by_cases hy : y = 0
  · subst hy
    have e : mag 0 = 0 := rfl
    rw [if_pos rfl, e, sgn_quoF_zero _ _ mx]
    by_cases c : x < 0
    · simp [c]
    · simp [c]
  · rw [if_neg hy, sgn_quoF _ _ _ mx (by unfold mag; split <;> omega)]

end Go.Proofs.Ytieegaojcjhfdaa

/-
  Plain laws of saturating products and quotients: the order of the factors, the factors one and zero, monotony.
-/
namespace Go.Proofs.Ytieegaojcjhfdaa
set_option linter.unusedVariables false
set_option linter.unusedSimpArgs false

theorem mulF_comm (x y : Int) : mulF y x = mulF x y := by
  unfold mulF
  have e : (decide (y < 0) != decide (x < 0)) = (decide (x < 0) != decide (y < 0)) := by
    cases decide (y < 0) <;> cases decide (x < 0) <;> rfl
  rw [Int.mul_comm (mag y), e]
theorem mulF_zero (x : Int) : mulF x 0 = 0 := by
  have e : mag 0 = 0 := rfl
  unfold mulF
  rw [e, Int.mul_zero]
  have f : rndFull (0 / 4294967296) (0 % 4294967296) 4294967296 = 0 := by decide +kernel
  rw [f]
  unfold sgn
  rw [if_pos (by omega)]
  split <;> rfl
theorem mulF_one (x : Int) (h1 : -9223372036854775808 ≤ x) (h2 : x ≤ 9223372036854775807) : mulF x 4294967296 = x := by
  have e : mag 4294967296 = 4294967296 := rfl
  unfold mulF
  have a : mag x * 4294967296 / 4294967296 = mag x := by omega
  have b : mag x * 4294967296 % 4294967296 = 0 := by omega
  rw [e, a, b]
  have u : up (mag x) 0 4294967296 = false := by
    unfold up; simp
  have r : rndFull (mag x) 0 4294967296 = mag x := by unfold rndFull; rw [if_neg (by rw [u]; decide)]
  rw [r]
  have d : (decide (x < 0) != decide ((4294967296 : Int) < 0)) = decide (x < 0) := by
    simp
  rw [d]
  unfold sgn mag
  by_cases c : x < 0
  · simp only [c, if_true, decide_true]
    split <;> omega
  · simp only [c, if_false, decide_false]
    rw [if_pos (by omega)]
    rfl
theorem divF_one (x : Int) (h1 : -9223372036854775808 ≤ x) (h2 : x ≤ 9223372036854775807) : divF x 4294967296 = x := by
  unfold divF
  by_cases c : x = 0
  · rw [if_pos c, c]
  · rw [if_neg c, if_neg (by omega)]
    have e := mulF_one x h1 h2
    unfold mulF at e
    have f : mag 4294967296 = 4294967296 := rfl
    rw [f] at e ⊢
    exact e
theorem divF_self (x : Int) (h : x ≠ 0) : divF x x = 4294967296 := by
  unfold divF
  rw [if_neg h, if_neg h]
  have m : 0 < mag x := by unfold mag; split <;> omega
  have a : mag x * 4294967296 / mag x = 4294967296 := Int.mul_ediv_cancel_left _ (by omega)
  have b : mag x * 4294967296 % mag x = 0 := Int.mul_emod_right _ _
  rw [a, b]
  have u : up 4294967296 0 (mag x) = false := by
    unfold up; simp; omega
  have r : rndFull 4294967296 0 (mag x) = 4294967296 := by unfold rndFull; rw [if_neg (by rw [u]; decide)]
  rw [r]
  simp [sgn]

/-- A magnitude of a product, rounded. -/
theorem rnd_mono {P P' : Int} (h : P ≤ P') : rndFull (P / 4294967296) (P % 4294967296) 4294967296 ≤ rndFull (P' / 4294967296) (P' % 4294967296) 4294967296 := by
  unfold rndFull up
  simp only [Bool.or_eq_true, Bool.and_eq_true, decide_eq_true_eq]
  split <;> split <;> omega
theorem sgn_mono {m m' : Int} (h : m ≤ m') : sgn false m ≤ sgn false m' := by
  have e1 : sgn false m = if m < 9223372036854775808 then m else 9223372036854775807 := rfl
  have e2 : sgn false m' = if m' < 9223372036854775808 then m' else 9223372036854775807 := rfl
  rw [e1, e2]; split <;> split <;> omega
theorem sgn_anti {m m' : Int} (h : m ≤ m') : sgn true m' ≤ sgn true m := by
  have e1 : sgn true m = if m < 9223372036854775808 then -m else -9223372036854775808 := rfl
  have e2 : sgn true m' = if m' < 9223372036854775808 then -m' else -9223372036854775808 := rfl
  rw [e1, e2]; split <;> split <;> omega
theorem mulF_pos (x k : Int) (hx : 0 ≤ x) (hk : 0 ≤ k) : mulF x k = sgn false (rndFull (x * k / 4294967296) (x * k % 4294967296) 4294967296) := by
  unfold mulF
  rw [mag_pos x hx, mag_pos k hk, decide_eq_false (show ¬ x < 0 by omega), decide_eq_false (show ¬ k < 0 by omega)]
  rfl
theorem mulF_neg (x k : Int) (hx : x < 0) (hk : 0 ≤ k) : mulF x k = sgn true (rndFull (-x * k / 4294967296) (-x * k % 4294967296) 4294967296) := by
  unfold mulF
  rw [mag_neg x hx, mag_pos k hk, decide_eq_true hx, decide_eq_false (show ¬ k < 0 by omega)]
  rfl
theorem rnd_zero : rndFull ((0 : Int) / 4294967296) (0 % 4294967296) 4294967296 = 0 := by decide +kernel
theorem mulF_mono (x y k : Int) (h : x ≤ y) (hk : 0 ≤ k) : mulF x k ≤ mulF y k := by
  by_cases hx : 0 ≤ x
  · rw [mulF_pos x k hx hk, mulF_pos y k (by omega) hk]
    exact sgn_mono (rnd_mono (Int.mul_le_mul_of_nonneg_right h hk))
  · by_cases hy : 0 ≤ y
    · rw [mulF_neg x k (by omega) hk, mulF_pos y k hy hk]
      have h1 := rnd_mono (Int.mul_nonneg (show 0 ≤ -x by omega) hk)
      have h2 := rnd_mono (Int.mul_nonneg hy hk)
      rw [rnd_zero] at h1 h2
      have h3 := sgn_anti h1
      have h4 := sgn_mono h2
      have e1 : sgn true 0 = 0 := by decide +kernel
      have e2 : sgn false 0 = 0 := by decide +kernel
      rw [e1] at h3
      rw [e2] at h4
      omega
    · rw [mulF_neg x k (by omega) hk, mulF_neg y k (by omega) hk]
      exact sgn_anti (rnd_mono (Int.mul_le_mul_of_nonneg_right (by omega) hk))
theorem sat_mono {a b : Int} (h : a ≤ b) : sat a ≤ sat b := by
  unfold sat
  split <;> (try split) <;> (try split) <;> (try split) <;> omega
theorem held_int (a : Int) : heldF (mag a * 4294967296 % 18446744073709551616) (decide (4294967296 ≤ mag a)) (decide (a < 0)) = sat (a * 4294967296) := by
  have hm : mag a = if a < 0 then -a else a := rfl
  by_cases c : 4294967296 ≤ mag a
  · rw [decide_eq_true c, heldF_true, sgn_big _ _ (by omega)]
    by_cases ha : a < 0
    · rw [decide_eq_true ha, sat_lo _ (by rw [if_pos ha] at hm; omega)]; rfl
    · rw [decide_eq_false ha, sat_hi _ (by rw [if_neg ha] at hm; omega)]; rfl
  · rw [decide_eq_false c, heldF_false]
    by_cases ha : a < 0
    · rw [decide_eq_true ha]
      rw [if_pos ha] at hm
      rw [hm] at c ⊢
      have e1 : sgn true (-a * 4294967296 % 18446744073709551616) = if -a * 4294967296 % 18446744073709551616 < 9223372036854775808 then -(-a * 4294967296 % 18446744073709551616) else -9223372036854775808 := rfl
      rw [e1]; unfold sat
      split <;> split <;> (try split) <;> omega
    · rw [decide_eq_false ha]
      rw [if_neg ha] at hm
      rw [hm] at c ⊢
      have e1 : sgn false (a * 4294967296 % 18446744073709551616) = if a * 4294967296 % 18446744073709551616 < 9223372036854775808 then (a * 4294967296 % 18446744073709551616) else 9223372036854775807 := rfl
      rw [e1]; unfold sat
      split <;> split <;> (try split) <;> omega
theorem int_floor (a : Int) (h1 : -2147483648 ≤ a) (h2 : a < 2147483648) : sat (a * 4294967296) / 4294967296 = a := by
  rw [sat_in _ (by omega) (by omega)]; omega

end Go.Proofs.Ytieegaojcjhfdaa

/-
  Worlds that differ in one block alone; rows of which the first places are changed.
-/
namespace Go.Proofs.Ytieegaojcjhfdaa
open Go.RowKit
set_option linter.unusedVariables false
set_option linter.unusedSimpArgs false

/-- Block g alone may have changed. -/
structure Only (g : Nat) (w w' : World) : Prop where
  os : w'.os = w.os
  tape : w'.tape = w.tape
  output : w'.output = w.output
  size : w'.heap.size = w.heap.size
  block : ∀ k, k ≠ g → w'.heap[k]? = w.heap[k]?
theorem Only.refl (g : Nat) (w : World) : Only g w w := ⟨rfl, rfl, rfl, rfl, fun _ _ => rfl⟩
theorem Only.setCell {g : Nat} {w w' : World} (h : Only g w w') (j : Nat) (v : Value) : Only g w (w'.setCell ⟨g, j, none⟩ v) := by
  have hb : Below 0 w' (w'.setCell ⟨g, j, none⟩ v) := (Below.refl 0 w').setCell (Nat.zero_le _) v
  refine ⟨hb.os.trans h.os, hb.tape.trans h.tape, hb.output.trans h.output, ?_, fun k hk => (Below.heap_setCell w' ⟨g, j, none⟩ v k hk).trans (h.block k hk)⟩
  rw [← h.size]; simp
theorem Only.drew {g : Nat} {w w' : World} (h : Only g w w') : Only g w w'.drew := ⟨h.os, h.tape, h.output, h.size, h.block⟩
theorem Only.drewN {g : Nat} {w w' : World} (h : Only g w w') (n : Nat) : Only g w (w'.drewN n) := ⟨h.os, h.tape, h.output, h.size, h.block⟩
theorem Only.below {g B : Nat} {w0 w w' : World} (h : Only g w w') (hb : Below B w0 w) (hg : B ≤ g) : Below B w0 w' :=
  ⟨h.os.trans hb.os, h.tape.trans hb.tape, h.output.trans hb.output, by rw [h.size]; exact hb.size, fun k hk => (h.block k (by omega)).trans (hb.block k hk)⟩
theorem Only.gat {g B : Nat} {w w' : World} {s c : Value} (h : Only g w w') (hG : GAt w B s c) (hB : B ≠ g) : GAt w' B s c := (h.block B hB).trans hG
theorem Only.row {g B : Nat} {w w' : World} {e : TypeId} {k : Nat} {v : Value} {n : Nat} {xs : List Value} (hO : Only g w w') (h : w.ownsRow B e k v n xs) (hg : ∀ q, v.ownBlock = some q → q ≠ g) : w'.ownsRow B e k v n xs := by
  rcases h.2 with h2 | ⟨g', cap, cur, hv, hbg, hg', rest⟩
  · exact ⟨h.1, .inl h2⟩
  · exact ⟨h.1, .inr ⟨g', cap, cur, hv, hbg, (hO.block g' (hg g' (by rw [hv]; rfl))).trans hg', rest⟩⟩
theorem Only.ints {g : Nat} {w w' : World} {a : Option Addr} {n : Nat} {zs : List Int} (hO : Only g w w') (h : IntsAt w a n zs) (hg : ∀ q, a = some q → q.block ≠ g) : IntsAt w' a n zs := by
  obtain ⟨h1, h2, h3, h4⟩ := h
  refine ⟨h1, h2, h3, ?_⟩
  rcases h4 with h4 | ⟨b, off, ha, hc⟩
  · exact .inl h4
  · refine .inr ⟨b, off, ha, fun j hj => ?_⟩
    rw [World.cell?_of_block (w := w) (w' := w') (a := ⟨b, off + j, none⟩) (hO.block b (hg _ ha))]
    exact hc j hj

/-- The first k places of cs are those of xs. -/
def mixR (xs cs : List Int) (k : Nat) : List Int := xs.take k ++ cs.drop k
theorem mixR_zero (xs cs : List Int) : mixR xs cs 0 = cs := by simp [mixR]
theorem mixR_all {xs cs : List Int} {k : Nat} (h1 : xs.length = k) (h2 : cs.length = k) : mixR xs cs k = xs := by
  unfold mixR; rw [List.take_of_length_le (by omega), List.drop_of_length_le (by omega), List.append_nil]
theorem mixR_length {xs cs : List Int} {k : Nat} (h : xs.length = cs.length) (hk : k ≤ xs.length) : (mixR xs cs k).length = cs.length := by
  unfold mixR; rw [List.length_append, List.length_take, List.length_drop]; omega
theorem mixR_get {xs cs : List Int} {k : Nat} (h : xs.length = cs.length) (hk : k < cs.length) : (mixR xs cs k)[k]? = some (cs.getD k 0) := by
  unfold mixR
  rw [List.getElem?_append_right (by rw [List.length_take]; omega), List.length_take, show k - min k xs.length = 0 by omega, List.getElem?_drop]
  simp [List.getD, List.getElem?_eq_getElem hk]
theorem mixR_set {xs cs : List Int} {k : Nat} (h : xs.length = cs.length) (hk : k < cs.length) : (mixR xs cs k).set k (xs.getD k 0) = mixR xs cs (k + 1) := by
  unfold mixR
  rw [List.set_append_right _ _ (by rw [List.length_take]; omega), List.length_take, show k - min k xs.length = 0 by omega, List.drop_eq_getElem_cons hk, List.set_cons_zero, List.take_add_one, List.getElem?_eq_getElem (show k < xs.length by omega), List.append_assoc]
  simp [List.getD, List.getElem?_eq_getElem (show k < xs.length by omega)]
theorem mixR_fits {xs cs : List Int} (h : Fits xs) (h' : Fits cs) (k : Nat) : Fits (mixR xs cs k) := by
  intro n hn
  unfold mixR at hn
  rcases List.mem_append.1 hn with hn | hn
  · exact h n (List.mem_of_mem_take hn)
  · exact h' n (List.mem_of_mem_drop hn)

/-- Each cell multiplied. -/
def scaleL (cs : List Int) (y : Int) : List Int := cs.map fun x => mulF x y
theorem scaleL_length (cs : List Int) (y : Int) : (scaleL cs y).length = cs.length := by simp [scaleL]
theorem scaleL_get {cs : List Int} {y : Int} {k : Nat} (h : k < cs.length) : (scaleL cs y).getD k 0 = mulF (cs.getD k 0) y := by
  simp [scaleL, List.getD, List.getElem?_eq_getElem h]
theorem scaleL_fits (cs : List Int) (y : Int) : Fits (scaleL cs y) := by
  intro n hn
  obtain ⟨x, -, rfl⟩ := List.mem_map.1 hn
  exact mulF_bounds x y
/-- The sums of the cells at the same places. -/
def addL (cs ds : List Int) : List Int := List.zipWith (fun x y => sat (x + y)) cs ds
theorem addL_length {cs ds : List Int} (h : cs.length = ds.length) : (addL cs ds).length = cs.length := by simp [addL]; omega
theorem addL_get {cs ds : List Int} {k : Nat} (h : cs.length = ds.length) (hk : k < cs.length) : (addL cs ds).getD k 0 = sat (cs.getD k 0 + ds.getD k 0) := by
  simp [addL, List.getD, List.getElem?_zipWith, List.getElem?_eq_getElem hk, List.getElem?_eq_getElem (show k < ds.length by omega)]
theorem addL_fits (cs ds : List Int) : Fits (addL cs ds) := by
  unfold addL
  induction cs generalizing ds with
  | nil => intro n hn; simp at hn
  | cons x cs ih =>
    cases ds with
    | nil => intro n hn; simp at hn
    | cons y ds =>
      intro n hn
      rw [List.zipWith_cons_cons, List.mem_cons] at hn
      rcases hn with rfl | hn
      · exact sat_bounds _
      · exact ih ds n hn
end Go.Proofs.Ytieegaojcjhfdaa

/-
  Plain mathematics of two-word products and quotients: the school method of multiplying, and of dividing by two halves.
-/
namespace Go.Proofs.Ytieegaojcjhfdaa
set_option linter.unusedVariables false
set_option linter.unusedSimpArgs false

theorem wrap64u (n : Int) : IntKind.u64.wrap n = n % 18446744073709551616 := IntKind.wrap_u64 n
theorem wrap64u_in (n : Int) (h0 : 0 ≤ n) (h1 : n < 18446744073709551616) : IntKind.u64.wrap n = n := by rw [IntKind.wrap_u64]; omega

theorem and32 (a : Int) (h0 : 0 ≤ a) (h1 : a < 18446744073709551616) : bits .and .u64 a 4294967295 = a % 4294967296 := by
  obtain ⟨n, rfl⟩ := Int.eq_ofNat_of_zero_le h0
  have h := bits_and_u64_nat n 4294967295 (by omega) (by omega)
  have e : n &&& 4294967295 = n % 4294967296 := Nat.and_two_pow_sub_one_eq_mod n 32
  rw [e] at h
  exact h

theorem and1 (a : Int) (h0 : 0 ≤ a) (h1 : a < 18446744073709551616) : bits .and .u64 a 1 = a % 2 := by
  obtain ⟨n, rfl⟩ := Int.eq_ofNat_of_zero_le h0
  have h := bits_and_u64_nat n 1 (by omega) (by omega)
  have e : n &&& 1 = n % 2 := Nat.and_one_is_mod n
  rw [e] at h
  exact h

theorem prod_le {a b A B : Int} (ha : 0 ≤ a) (hb : 0 ≤ b) (hA : a ≤ A) (hB : b ≤ B) : 0 ≤ a * b ∧ a * b ≤ A * B :=
  ⟨Int.mul_nonneg ha hb, Int.mul_le_mul hA hB hb (by omega)⟩

theorem half_prod {a b : Int} (ha : 0 ≤ a) (hb : 0 ≤ b) (hA : a ≤ 4294967295) (hB : b ≤ 4294967295) : 0 ≤ a * b ∧ a * b ≤ 18446744065119617025 := by
  have h := prod_le ha hb hA hB
  omega

theorem split_prod (x1 x0 y1 y0 : Int) : (x1 * 4294967296 + x0) * (y1 * 4294967296 + y0) = x1 * y1 * 18446744073709551616 + (x1 * y0 + x0 * y1) * 4294967296 + x0 * y0 := by
  have e1 : x1 * 4294967296 * (y1 * 4294967296) = x1 * y1 * 18446744073709551616 := by
    have h : (18446744073709551616 : Int) = 4294967296 * 4294967296 := rfl
    rw [h]
    generalize (4294967296 : Int) = K
    ac_rfl
  have e2 : x1 * 4294967296 * y0 = x1 * y0 * 4294967296 := Int.mul_right_comm _ _ _
  have e3 : x0 * (y1 * 4294967296) = x0 * y1 * 4294967296 := (Int.mul_assoc _ _ _).symm
  rw [Int.add_mul, Int.mul_add, Int.mul_add, e1, e2, e3]
  omega

/-- The upper word of a product by halves. -/
theorem mul_hi (x y : Int) :
    x / 4294967296 * (y / 4294967296) + (x / 4294967296 * (y % 4294967296) + x % 4294967296 * (y % 4294967296) / 4294967296) / 4294967296 +
      ((x / 4294967296 * (y % 4294967296) + x % 4294967296 * (y % 4294967296) / 4294967296) % 4294967296 + x % 4294967296 * (y / 4294967296)) / 4294967296 = x * y / 18446744073709551616 := by
  have e : x * y = (x / 4294967296) * (y / 4294967296) * 18446744073709551616 + ((x / 4294967296) * (y % 4294967296) + (x % 4294967296) * (y / 4294967296)) * 4294967296 + (x % 4294967296) * (y % 4294967296) := by
    rw [← split_prod]
    congr 1 <;> omega
  rw [e]
  generalize (x / 4294967296) * (y / 4294967296) = a at *
  generalize (x / 4294967296) * (y % 4294967296) = b at *
  generalize (x % 4294967296) * (y / 4294967296) = c at *
  generalize (x % 4294967296) * (y % 4294967296) = d at *
  omega

theorem or_parts (h l : Int) (h0 : 0 ≤ h) (h1 : h < 4294967296) (l0 : 0 ≤ l) (l1 : l < 4294967296) : bits .or .u64 (h * 4294967296) l = h * 4294967296 + l := by
  obtain ⟨n, rfl⟩ := Int.eq_ofNat_of_zero_le h0
  obtain ⟨m, rfl⟩ := Int.eq_ofNat_of_zero_le l0
  have e := bits_or_u64_nat (n * 4294967296) m (by omega) (by omega)
  have f : n * 4294967296 ||| m = n * 4294967296 + m := by
    have g := Nat.shiftLeft_add_eq_or_of_lt (i := 32) (b := m) (by omega) n
    rw [Nat.shiftLeft_eq] at g
    exact g.symm
  rw [f] at e
  simp only [Int.natCast_add, Int.natCast_mul] at e
  exact e

/-- The middle two halves of a two-word number. -/
theorem or_mid (P : Int) (h0 : 0 ≤ P) (h1 : P < 79228162514264337593543950336) :
    bits .or .u64 (P / 18446744073709551616 * 4294967296) (P % 18446744073709551616 / 4294967296) = P / 4294967296 := by
  rw [or_parts _ _ (by omega) (by omega) (by omega) (by omega)]
  omega

theorem or_even (h c : Int) (h0 : 0 ≤ h) (h1 : h < 9223372036854775808) (c0 : 0 ≤ c) (c1 : c < 2) : bits .or .u64 (h * 2) c = h * 2 + c := by
  obtain ⟨n, rfl⟩ := Int.eq_ofNat_of_zero_le h0
  obtain ⟨m, rfl⟩ := Int.eq_ofNat_of_zero_le c0
  have e := bits_or_u64_nat (n * 2) m (by omega) (by omega)
  have f : n * 2 ||| m = n * 2 + m := by
    have g := Nat.shiftLeft_add_eq_or_of_lt (i := 1) (b := m) (by omega) n
    rw [Nat.shiftLeft_eq] at g
    exact g.symm
  rw [f] at e
  simp only [Int.natCast_add, Int.natCast_mul] at e
  exact e

/-- The bits of b from bit n on. -/
def topBits (b : Int) (n : Nat) : Int := b / 2 ^ n
theorem topBits_zero (b : Int) : topBits b 0 = b := by unfold topBits; simp
theorem topBits_half (b : Int) (n : Nat) : topBits b (n + 1) = topBits b n / 2 := by
  unfold topBits
  have h : (2 : Int) ^ (n + 1) = 2 ^ n * 2 := Int.pow_succ 2 n
  have hp : (0 : Int) ≤ 2 ^ n := Int.le_of_lt (Int.pow_pos (by omega))
  rw [h, Int.ediv_ediv_of_nonneg hp]
theorem topBits_nonneg (b : Int) (n : Nat) (h : 0 ≤ b) : 0 ≤ topBits b n := by
  unfold topBits
  exact Int.ediv_nonneg h (Int.le_of_lt (Int.pow_pos (by omega)))
theorem topBits_le (b : Int) (n : Nat) (h : 0 ≤ b) : topBits b n ≤ b := by
  induction n with
  | zero => rw [topBits_zero]; omega
  | succ n ih => rw [topBits_half]; have := topBits_nonneg b n h; omega
theorem topBits_le_half (b : Int) (n : Nat) (h : 0 ≤ b) : topBits b (n + 1) ≤ b / 2 := by
  have := topBits_le b n h
  rw [topBits_half]; omega
theorem topBits_top (b : Int) (n : Nat) (h : 0 ≤ b) (hb : b < 2 ^ n) : topBits b n = 0 := by
  unfold topBits
  exact Int.ediv_eq_zero_of_lt h hb
theorem topBits_split (b : Int) (n : Nat) : topBits b n = 2 * topBits b (n + 1) + topBits b n % 2 := by
  rw [topBits_half]; omega
theorem mul_topBits (a b : Int) (n : Nat) : a * topBits b n = a * topBits b (n + 1) * 2 + a * (topBits b n % 2) := by
  have h : a * topBits b n = a * (2 * topBits b (n + 1) + topBits b n % 2) := by rw [← topBits_split]
  rw [h, Int.mul_add, Int.mul_comm 2, Int.mul_assoc]

theorem or_mid_wrap (P : Int) (h0 : 0 ≤ P) :
    bits .or .u64 (IntKind.u64.wrap (P / 18446744073709551616 * 4294967296)) (P % 18446744073709551616 / 4294967296) = P / 4294967296 % 18446744073709551616 := by
  rw [wrap64u]
  have e : P / 18446744073709551616 * 4294967296 % 18446744073709551616 = P / 18446744073709551616 % 4294967296 * 4294967296 := by omega
  rw [e, or_parts _ _ (by omega) (by omega) (by omega) (by omega)]
  omega
theorem low_rest (P : Int) : IntKind.u64.wrap (P % 18446744073709551616 * 4294967296) / 4294967296 = P % 4294967296 := by
  rw [wrap64u]; omega

/-! A digit of a quotient: Y = yh * 2^32 + yl, N = U * 2^32 + c, q * yh + r = U. -/
section
variable {Y yh yl U c q r : Int}
theorem dig_key (hY : Y = yh * 4294967296 + yl) (hq : q * yh + r = U) : q * Y = U * 4294967296 - r * 4294967296 + q * yl := by
  rw [hY, Int.mul_add, ← Int.mul_assoc]; omega
theorem dig_lt (hY0 : 0 < Y) (hU : U < Y) (hc : c < 4294967296) : (U * 4294967296 + c) / Y < 4294967296 := by
  rw [Int.ediv_lt_iff_lt_mul hY0]; omega
theorem dig_big (hY0 : 0 < Y) (hU : U < Y) (hc : c < 4294967296) (h : 4294967296 ≤ q) : (U * 4294967296 + c) / Y ≤ q - 1 := by
  have := dig_lt hY0 hU hc; omega
theorem dig_gt (hY0 : 0 < Y) (hY : Y = yh * 4294967296 + yl) (hq : q * yh + r = U) (h : r * 4294967296 + c < q * yl) : (U * 4294967296 + c) / Y ≤ q - 1 := by
  have k := dig_key hY hq
  have : (U * 4294967296 + c) / Y < q := by rw [Int.ediv_lt_iff_lt_mul hY0]; omega
  omega
theorem dig_le (hY0 : 0 < Y) (hY : Y = yh * 4294967296 + yl) (hq : q * yh + r = U) (h : q * yl ≤ r * 4294967296 + c) : q ≤ (U * 4294967296 + c) / Y := by
  have k := dig_key hY hq
  rw [Int.le_ediv_iff_mul_le hY0]; omega
theorem dig_break (hY0 : 0 < Y) (hY : Y = yh * 4294967296 + yl) (hq : q * yh + r = U) (hl0 : 0 ≤ yl) (hl : yl < 4294967296) (hc : 0 ≤ c) (q0 : 0 ≤ q) (q1 : q < 4294967296) (h : 4294967296 ≤ r) : q ≤ (U * 4294967296 + c) / Y := by
  refine dig_le hY0 hY hq ?_
  have := (prod_le q0 hl0 (show q ≤ 4294967295 by omega) (show yl ≤ 4294967295 by omega)).2
  omega
theorem dig_nobreak (hY : Y = yh * 4294967296 + yl) (hU : U < Y) (hq : q * yh + r = U) (hl : yl < 4294967296) (hh : 0 ≤ yh) (h : 4294967296 ≤ q) : r < 4294967296 := by
  have := Int.mul_le_mul_of_nonneg_right h hh
  omega
theorem dig_start (hY0 : 0 < Y) (hY : Y = yh * 4294967296 + yl) (hh : 0 < yh) (hl0 : 0 ≤ yl) (hc : c < 4294967296) (hU0 : 0 ≤ U) : (U * 4294967296 + c) / Y ≤ U / yh := by
  rw [Int.le_ediv_iff_mul_le hh]
  have h1 : (U * 4294967296 + c) / Y * Y ≤ U * 4294967296 + c := Int.ediv_mul_le _ (by omega)
  generalize (U * 4294967296 + c) / Y = d at *
  by_cases hd : 0 ≤ d
  · have h2 := Int.mul_nonneg hd hl0
    rw [hY, Int.mul_add, ← Int.mul_assoc] at h1
    omega
  · have h2 := Int.mul_nonneg (show 0 ≤ -d by omega) (Int.le_of_lt hh)
    rw [Int.neg_mul] at h2
    omega
theorem dig_rest (hh : 0 < yh) : U / yh * yh + (U - U / yh * yh) = U ∧ 0 ≤ U - U / yh * yh ∧ U - U / yh * yh < yh ∧ U / yh * yh ≤ U := by
  have h1 := Int.emod_nonneg U (show yh ≠ 0 by omega)
  have h2 := Int.emod_lt_of_pos U hh
  have h3 := Int.ediv_mul_add_emod U yh
  omega
end

theorem pow_pos2 (n : Nat) : (0 : Int) < 2 ^ n := Int.pow_pos (by omega)

theorem or_pow (h c : Int) (s : Nat) (h0 : 0 ≤ h) (c0 : 0 ≤ c) (c1 : c < 2 ^ s) (hb : h * 2 ^ s + c < 18446744073709551616) : bits .or .u64 (h * 2 ^ s) c = h * 2 ^ s + c := by
  obtain ⟨n, rfl⟩ := Int.eq_ofNat_of_zero_le h0
  obtain ⟨m, rfl⟩ := Int.eq_ofNat_of_zero_le c0
  have hT : ((2 ^ s : Nat) : Int) = (2 : Int) ^ s := by simp
  have c1' : m < 2 ^ s := by rw [← hT] at c1; omega
  have hb' : n * 2 ^ s + m < 18446744073709551616 := by
    have e : ((n * 2 ^ s + m : Nat) : Int) = (n : Int) * 2 ^ s + (m : Int) := by rw [Int.natCast_add, Int.natCast_mul, hT]
    omega
  have g := Nat.shiftLeft_add_eq_or_of_lt c1' n
  rw [Nat.shiftLeft_eq] at g
  have e := bits_or_u64_nat (n * 2 ^ s) m (by omega) (by omega)
  rw [← g] at e
  rw [Int.natCast_add, Int.natCast_mul, hT] at e
  exact e

/-- Both words of the dividend, shifted until the divisor's first bit is set. -/
theorem norm_spec (hi lo y : Int) (s : Nat) (hs : s ≤ 63) (h0 : 0 ≤ hi) (hy : hi < y) (l0 : 0 ≤ lo) (l1 : lo < 18446744073709551616) (hY : y * 2 ^ s < 18446744073709551616) :
    0 ≤ hi * 2 ^ s ∧ hi * 2 ^ s + lo / 2 ^ (64 - s) < y * 2 ^ s ∧ 0 ≤ lo / 2 ^ (64 - s) ∧
    bits .or .u64 (hi * 2 ^ s) (lo / 2 ^ (64 - s)) = hi * 2 ^ s + lo / 2 ^ (64 - s) ∧
    (hi * 2 ^ s + lo / 2 ^ (64 - s)) * 18446744073709551616 + IntKind.u64.wrap (lo * 2 ^ s) = (hi * 18446744073709551616 + lo) * 2 ^ s := by
  have hp : (2 : Int) ^ (64 - s) * 2 ^ s = 18446744073709551616 := by
    rw [← Int.pow_add, show 64 - s + s = 64 from by omega]; rfl
  have t0 := pow_pos2 s
  have t1 := pow_pos2 (64 - s)
  have hor := or_pow hi (lo / 2 ^ (64 - s)) s h0
  generalize (2 : Int) ^ s = T at *
  generalize (2 : Int) ^ (64 - s) = V at *
  have a0 : 0 ≤ lo / V := Int.ediv_nonneg l0 (by omega)
  have a1 : lo / V < T := by rw [Int.ediv_lt_iff_lt_mul t1, Int.mul_comm, hp]; exact l1
  have m0 : 0 ≤ hi * T := Int.mul_nonneg h0 (by omega)
  have m1 : (hi + 1) * T ≤ y * T := Int.mul_le_mul_of_nonneg_right (by omega) (by omega)
  rw [Int.add_mul, Int.one_mul] at m1
  refine ⟨m0, by omega, a0, hor a0 a1 (by omega), ?_⟩
  have d := Int.ediv_mul_add_emod lo V
  have d0 := Int.emod_nonneg lo (show V ≠ 0 by omega)
  have d1 := Int.emod_lt_of_pos lo t1
  have e1 : lo * T = lo / V * 18446744073709551616 + lo % V * T := by
    rw [← hp, ← Int.mul_assoc, ← Int.add_mul, d]
  have e2 : lo % V * T < 18446744073709551616 := by
    rw [← hp]; exact Int.mul_lt_mul_of_pos_right d1 t0
  have e3 : 0 ≤ lo % V * T := Int.mul_nonneg d0 (by omega)
  rw [wrap64u, Int.add_mul, Int.add_mul (hi * 18446744073709551616), Int.mul_right_comm hi]
  omega

/-- Two digits make the quotient; the rest, shifted back, is the remainder. -/
theorem two_digits (M y T U W : Int) (t0 : 0 < T) (y0 : 0 < y) (hM : U * 18446744073709551616 + W = M * T) (w0 : 0 ≤ W) (w1 : W < 18446744073709551616) (a b : Int)
    (ha : a = (U * 4294967296 + W / 4294967296) % (y * T)) (hb : b = (a * 4294967296 + W % 4294967296) / (y * T)) :
    (U * 4294967296 + W / 4294967296) / (y * T) * 4294967296 + b = M / y ∧ (a * 4294967296 + W % 4294967296 - b * (y * T)) / T = M % y := by
  have hY : 0 < y * T := Int.mul_pos y0 t0
  have q1 : M * T / (y * T) = M / y := by rw [Int.mul_comm M, Int.mul_comm y]; exact Int.mul_ediv_mul_of_pos _ _ t0
  have q2 : M * T % (y * T) = T * (M % y) := by rw [Int.mul_comm M, Int.mul_comm y]; exact Int.mul_emod_mul_of_pos _ _ t0
  have d1 := Int.ediv_mul_add_emod (U * 4294967296 + W / 4294967296) (y * T)
  have d2 := Int.ediv_mul_add_emod (a * 4294967296 + W % 4294967296) (y * T)
  have r0 := Int.emod_nonneg (a * 4294967296 + W % 4294967296) (show y * T ≠ 0 by omega)
  have r1 := Int.emod_lt_of_pos (a * 4294967296 + W % 4294967296) hY
  rw [← hb] at d2
  rw [← ha] at d1
  generalize hr : (a * 4294967296 + W % 4294967296) % (y * T) = R at *
  generalize (U * 4294967296 + W / 4294967296) / (y * T) = c at *
  have key : R + y * T * (c * 4294967296 + b) = M * T := by
    rw [Int.mul_add, ← Int.mul_assoc, Int.mul_comm (y * T) c, Int.mul_comm (y * T) b]
    omega
  have u := (Int.ediv_emod_unique hY).2 ⟨key, r0, r1⟩
  rw [q1, q2] at u
  refine ⟨u.1.symm, ?_⟩
  have e : a * 4294967296 + W % 4294967296 - b * (y * T) = T * (M % y) := by rw [u.2]; omega
  rw [e]
  exact Int.mul_ediv_cancel_left _ (by omega)

/-- What a digit leaves, reckoned modulo 2^64. -/
theorem dig_next (U c Y D : Int) (hY0 : 0 < Y) (hY : Y < 18446744073709551616) (hD : (U * 4294967296 + c) / Y = D) :
    IntKind.u64.wrap (IntKind.u64.wrap (IntKind.u64.wrap (U * 4294967296) + c) - IntKind.u64.wrap (D * Y)) = (U * 4294967296 + c) % Y ∧
    (U * 4294967296 + c) % Y = U * 4294967296 + c - D * Y ∧ 0 ≤ (U * 4294967296 + c) % Y ∧ (U * 4294967296 + c) % Y < Y := by
  have h1 := Int.ediv_mul_add_emod (U * 4294967296 + c) Y
  have h2 := Int.emod_nonneg (U * 4294967296 + c) (show Y ≠ 0 by omega)
  have h3 := Int.emod_lt_of_pos (U * 4294967296 + c) hY0
  rw [hD] at h1
  refine ⟨?_, by omega, h2, h3⟩
  rw [wrap64u, wrap64u, wrap64u, wrap64u]
  omega

end Go.Proofs.Ytieegaojcjhfdaa

/-
  Contracts of package fix: each function's result, for every argument; the world stays as it is.
-/
namespace Go.Proofs.Ytieegaojcjhfdaa
open Go.RowKit
set_option linter.unusedVariables false
set_option linter.unusedSimpArgs false

theorem mag_wrap_neg (x : Int) (h1 : -9223372036854775808 ≤ x) (h2 : x < 0) : IntKind.u64.wrap (-IntKind.u64.wrap x) = mag x := by
  rw [wrap64u, wrap64u, mag_neg x h2]; omega
theorem mag_wrap_pos (x : Int) (h1 : 0 ≤ x) (h2 : x ≤ 9223372036854775807) : IntKind.u64.wrap x = mag x := by
  rw [wrap64u, mag_pos x h1]; omega

theorem up_a {whole rest unit : Int} (h : unit - rest < rest) : up whole rest unit = true := by
  unfold up; simp only [Bool.or_eq_true, decide_eq_true_eq]; exact .inl (by omega)
theorem up_b {whole rest unit : Int} (h : rest = unit - rest) (ho : whole % 2 = 1) : up whole rest unit = true := by
  unfold up; simp only [Bool.or_eq_true, Bool.and_eq_true, decide_eq_true_eq]; exact .inr ⟨by omega, ho⟩
theorem up_c {whole rest unit : Int} (h : ¬ unit - rest < rest) (ho : ¬ whole % 2 = 1) : up whole rest unit = false := by
  unfold up; simp only [Bool.or_eq_false_iff, Bool.and_eq_false_iff, decide_eq_false_iff_not]; exact ⟨by omega, .inr ho⟩
theorem up_d {whole rest unit : Int} (h : ¬ unit - rest < rest) (hne : ¬ rest = unit - rest) : up whole rest unit = false := by
  unfold up; simp only [Bool.or_eq_false_iff, Bool.and_eq_false_iff, decide_eq_false_iff_not]; exact ⟨by omega, .inl (by omega)⟩
theorem rnd_up {whole rest unit : Int} (h : up whole rest unit = true) (hw : whole < 9223372036854775808) : whole + 1 = rnd whole rest unit := by
  unfold rnd; rw [if_pos ⟨h, hw⟩]
theorem rnd_cap {whole rest unit : Int} (hw : 9223372036854775808 ≤ whole) : whole = rnd whole rest unit := by
  unfold rnd; rw [if_neg (fun hh => by omega)]
theorem rnd_no {whole rest unit : Int} (h : up whole rest unit = false) : whole = rnd whole rest unit := by
  unfold rnd; rw [if_neg (fun hh => by rw [h] at hh; exact absurd hh.1 (by decide))]

theorem ret_two {k l : IntKind} {a b c d : Int} (h : a = b) (h' : c = d) : Ending.returned (.tuple #[.int k a, .int l c]) = .returned (.tuple #[.int k b, .int l d]) := by rw [h, h']

end Go.Proofs.Ytieegaojcjhfdaa
/-
  Plain mathematics of sums and dot products of lists of saturating numbers.
-/
namespace Go.Proofs.Ytieegaojcjhfdaa
set_option linter.unusedVariables false
set_option linter.unusedSimpArgs false

/-- The sum of the elements, saturated after each addition. -/
def sumF (l : List Int) : Int := l.foldl (fun s x => sat (s + x)) 0
theorem sumF_step (l : List Int) (k : Nat) (hk : k < l.length) : sumF (l.take (k + 1)) = sat (sumF (l.take k) + l.getD k 0) := by
  unfold sumF
  rw [List.take_add_one, List.foldl_append]
  simp [List.getD, List.getElem?_eq_getElem hk]
theorem sumF_bounds (l : List Int) : -9223372036854775808 ≤ sumF l ∧ sumF l ≤ 9223372036854775807 := by
  unfold sumF
  cases h : l.reverse with
  | nil =>
    have : l = [] := by simpa using h
    subst this; simp
  | cons a r =>
    have : l = r.reverse ++ [a] := by rw [← List.reverse_reverse l, h]; simp
    subst this
    rw [List.foldl_append]
    exact sat_bounds _

/-- The sum of the products of the elements at the same index. -/
def dotF (a b : List Int) : Int := (a.zip b).foldl (fun s x => sat (s + mulF x.1 x.2)) 0
theorem dotF_step (a b : List Int) (k : Nat) (ha : k < a.length) (hb : k < b.length) : dotF (a.take (k + 1)) (b.take (k + 1)) = sat (dotF (a.take k) (b.take k) + mulF (a.getD k 0) (b.getD k 0)) := by
  unfold dotF
  have e : (a.take (k + 1)).zip (b.take (k + 1)) = (a.take k).zip (b.take k) ++ [(a.getD k 0, b.getD k 0)] := by
    rw [List.take_add_one, List.take_add_one, List.getElem?_eq_getElem ha, List.getElem?_eq_getElem hb, List.zip_append (by simp; omega)]
    simp [List.getD, List.getElem?_eq_getElem ha, List.getElem?_eq_getElem hb]
  rw [e, List.foldl_append]
  rfl
theorem dotF_bounds (a b : List Int) : -9223372036854775808 ≤ dotF a b ∧ dotF a b ≤ 9223372036854775807 := by
  unfold dotF
  generalize a.zip b = l
  cases h : l.reverse with
  | nil =>
    have : l = [] := by simpa using h
    subst this; simp
  | cons a r =>
    have : l = r.reverse ++ [a] := by rw [← List.reverse_reverse l, h]; simp
    subst this
    rw [List.foldl_append]
    exact sat_bounds _
theorem dotF_full (a b : List Int) (k : Nat) (h : k = min a.length b.length) : dotF (a.take k) (b.take k) = dotF a b := by
  unfold dotF
  subst h
  congr 1
  induction a generalizing b with
  | nil => simp
  | cons x a ih => cases b with
    | nil => simp
    | cons y b => simp [Nat.succ_min_succ, ih b]

end Go.Proofs.Ytieegaojcjhfdaa

/-
  Contracts of package fix: sums and dot products of lists.
-/
namespace Go.Proofs.Ytieegaojcjhfdaa
open Go.RowKit
set_option linter.unusedVariables false
set_option linter.unusedSimpArgs false

end Go.Proofs.Ytieegaojcjhfdaa
/-
  Contracts of package tensor: Scale, Add, Dot.
-/
namespace Go.Proofs.Ytieegaojcjhfdaa
open Go.RowKit
set_option linter.unusedVariables false
set_option linter.unusedSimpArgs false

end Go.Proofs.Ytieegaojcjhfdaa
/-
  Contracts of package tensor: Add.
-/
namespace Go.Proofs.Ytieegaojcjhfdaa
open Go.RowKit
set_option linter.unusedVariables false
set_option linter.unusedSimpArgs false

end Go.Proofs.Ytieegaojcjhfdaa
/-
  Contracts of package tensor: Dot; of the statements' file: small, right; the fixed answer of the statements of layer 4.
-/
namespace Go.Proofs.Ytieegaojcjhfdaa
open Go.RowKit
set_option linter.unusedVariables false
set_option linter.unusedSimpArgs false

theorem rightT_pos {ss : List Int} {n : Nat} (h : rightT ss n = true) : 0 < n := by
  obtain ⟨h1, h2⟩ := rightT_parts h
  have := prodI_pos (rightS_parts h1).2.2.1
  omega
theorem alikeT_parts {s1 s2 : List Int} {n1 n2 : Nat} (h : alikeT s1 n1 s2 n2 = true) : rightT s1 n1 = true ∧ rightT s2 n2 = true ∧ s1 = s2 ∧ n1 = n2 := by
  simp only [alikeT, Bool.and_eq_true] at h
  obtain ⟨⟨h1, h2⟩, h3⟩ := h
  have e := sameL_eq h3
  refine ⟨h1, h2, e, ?_⟩
  have x1 := (rightT_parts h1).2
  have x2 := (rightT_parts h2).2
  rw [← e] at x2
  omega

/-- The statements look at tensors of at most 50 sides and 600 cells. -/
def smallT (sl cl : Nat) : Bool := decide (sl ≤ 50) && decide (cl ≤ 600)

end Go.Proofs.Ytieegaojcjhfdaa
/-
  The fixed answer of the statements of layer 4: the program gives it.
-/
namespace Go.Proofs.Ytieegaojcjhfdaa
open Go.RowKit
set_option linter.unusedVariables false
set_option linter.unusedSimpArgs false

/-- Two new slices of integers, one behind the other. -/
theorem rows_made (W : World) (t t' : TypeId) (xs ys : List Int) (n m : Nat) (hn : xs.length = n) (hm : ys.length = m) (h1 : n ≤ 1000) (h2 : m ≤ 1000) (f1 : Fits xs) (f2 : Fits ys) :
    ∃ W2, Hid ((W.alloc (.cells (xs.map (Value.int .i64)).toArray t)).alloc (.cells (ys.map (Value.int .i64)).toArray t') = W2) ∧ Hid (IntsAt W2 (some ⟨W.heap.size, 0, none⟩) n xs) ∧ Hid (IntsAt W2 (some ⟨W.heap.size + 1, 0, none⟩) m ys) ∧ Hid (Below W.heap.size W W2) := by
  refine ⟨_, Lib.hid rfl, Lib.hid ((IntsAt.made W t xs n hn (by omega) f1).kept ((Below.refl _ _).alloc (Nat.le_refl _) _)), Lib.hid ?_, Lib.hid (((Below.refl _ _).alloc (Nat.le_refl _) _).alloc (by simp) _)⟩
  have := IntsAt.made (W.alloc (.cells (xs.map (Value.int .i64)).toArray t)) t' ys m hm (by omega) f2
  simpa using this
theorem row_made (W : World) (t : TypeId) (xs : List Int) (n : Nat) (hn : xs.length = n) (h1 : n ≤ 1000) (f1 : Fits xs) :
    ∃ W2, Hid (W.alloc (.cells (xs.map (Value.int .i64)).toArray t) = W2) ∧ Hid (IntsAt W2 (some ⟨W.heap.size, 0, none⟩) n xs) ∧ Hid (Below W.heap.size W W2) :=
  ⟨_, Lib.hid rfl, Lib.hid (IntsAt.made W t xs n hn (by omega) f1), Lib.hid ((Below.refl _ _).alloc (Nat.le_refl _) _)⟩
theorem fits_small {l : List Int} (h : allR 0 100 l = true) : Fits l := by
  intro n hn
  unfold allR at h
  rw [List.all_eq_true] at h
  have := inR_bounds (h n hn)
  omega

end Go.Proofs.Ytieegaojcjhfdaa
