import Derived.Test.YtieegaojcjhfdaaJ00
import Derived.Deep.RegionWith
import Derived.IntWalk
/-
  Contracts of package shape and its reference: copies, equal lists, one side changed.
-/
namespace Go.Proofs.Ytieegaojcjhfdaa
open Go.RowKit
set_option linter.unusedVariables false
set_option linter.unusedSimpArgs false

theorem cells_news {w : World} {ad : Addr} {len : Nat} {zs : List Int} (h : IntsAt w (some ad) len zs) (o : Obj) : ∀ j u, (zs.map (Value.int .i64))[j]? = some u → (w.alloc o).cell? (ad.add j) = some u := by
  obtain ⟨h1, h2, h3, h4⟩ := h
  intro j u hj
  have hjl := (List.getElem?_eq_some_iff.1 hj).1
  rw [List.length_map] at hjl
  rcases h4 with h4 | ⟨b, off, ha, hc⟩
  · omega
  · cases ha
    rw [Addr.add_lit]
    refine Lib.cell?_alloc_some _ ?_
    rw [hc j (by omega)]
    rw [← hj]
    simp [List.getD, List.getElem?_eq_getElem hjl]

set_option maxHeartbeats 2000000 in
theorem clone_any (a : Option Addr) (len cap : Nat) (zs : List Int) (w : World) (h : IntsAt w a len zs) (hs : len ≤ 1000) :
    Calls Try.prog 51 #[.slice a len cap] w (NewInts w len zs) := by
  have q : ∀ (w : World) (a : Option Addr) (n c n' c' : Nat), (binOp .eql 26 (.slice a n c) (.slice none n' c')).run Try.prog w = .ok (.bool a.isNone) w := fun w a n c n' c' => Lib.run_eql_slice_nil w _ _ a n c n' c' Try.underlying26
  obtain ⟨i0, hi, hz0, hz1, hz2⟩ := info_parts intInfo
  cases a with
  | none =>
    have e0 : len = 0 := by
      rcases h.2.2.2 with h4 | ⟨b, off, ha, _⟩
      · exact h4
      · cases ha
    subst e0
    have e1 : zs = [] := List.length_eq_zero_iff.1 h.1
    subst e1
    clear h
    go_enter Try.func51, Try.ntmps51
    go_wp2_with fail
    go_ret
    exact ⟨none, 0, rfl, World.ownsRow_nil _ _ _ _, Below.refl _ _⟩
  | some ad =>
    have C := cells_news h (.cells #[] 3)
    have hl : zs.length = len := h.1
    clear h
    have A : Hid (∀ j u, (zs.map (Value.int .i64))[j]? = some u → (w.alloc (.cells #[] 3)).cell? (ad.add j) = some u) := C
    clear C
    have hl' := Lib.hid hl
    clear hl
    go_enter Try.func51, Try.ntmps51
    go_wp2_with (at_builtin; refine wpList_append_own _ rfl _ _ 26 rfl w.heap.size 3 i0 (.int .i64 0) 1 8 Try.underlying26 hi hz0 hz1 hz2 rfl (by decide) _ _ _ rfl (World.ownsRow_made w #[] 0 (Nat.le_refl _) (Nat.zero_le _) rfl) ad len cap (zs.map (Value.int .i64)) rfl ?c1 ?c2 ?c3 ?c4 ?c5 ?c6 ?_)
    case c1 => rw [List.length_map, hl'.out, Nat.mul_one]
    case c2 => exact A.out
    case c3 => intro u hu; obtain ⟨x, _, rfl⟩ := List.mem_map.1 hu; rfl
    case c4 => unfold maxLen; omega
    case c5 => omega
    case c6 => simp
    intro v' w1 hown hgrow hnil
    have hb := ((Below.refl w.heap.size w).alloc (Nat.le_refl _) (.cells #[] 3)).grown hgrow (by simp) (by intro k hk; simp [Value.ownBlock] at hk; omega)
    have P : NewInts w len zs (.returned v') w1 := by
      rcases Joins.ownsRow_forms hown with ⟨rfl, e0⟩ | ⟨g, c, rfl⟩
      · subst e0; exact ⟨_, _, rfl, hown, hb⟩
      · exact ⟨_, _, rfl, hown, hb⟩
    replace P := Lib.hid P
    clear hown hgrow hnil hb
    go_wp2_with fail
    go_ret
    exact P.out

set_option maxHeartbeats 400000 in
theorem copy_any (a : Option Addr) (len cap : Nat) (zs : List Int) (w : World) (h : IntsAt w a len zs) (hs : len ≤ 1000) :
    Calls Try.prog 45 #[.slice a len cap] w (NewInts w len zs) := by
  have C := Lib.hid (clone_any a len cap zs w h hs)
  clear h
  go_enter Try.func45, Try.ntmps45
  go_wp2_with fail
  refine C.out.mono ?_
  rintro e w1 ⟨A, c, rfl, ho, hb⟩
  have P : NewInts w len zs (.returned (.slice A len c)) w1 := ⟨A, c, rfl, ho, hb⟩
  replace P := Lib.hid P
  clear ho hb
  go_wp2_with fail
  go_ret
  exact P.out

set_option maxHeartbeats 1000000 in
theorem sliceEqual_any (a1 : Option Addr) (l1 c1 : Nat) (xs : List Int) (a2 : Option Addr) (l2 c2 : Nat) (ys : List Int) (w : World) (h : IntsAt w a1 l1 xs) (h' : IntsAt w a2 l2 ys) :
    Calls Try.prog 44 #[.slice a1 l1 c1, .slice a2 l2 c2] w fun e w' => e = .returned (.bool (sameL xs ys)) ∧ ∃ n, w' = w.drewN n := by
  obtain ⟨g1, g2, g3, g4⟩ := h
  obtain ⟨k1, k2, k3, k4⟩ := h'
  by_cases el : l1 = l2
  · obtain rfl := el
    have G := Lib.hid g1
    have K := Lib.hid k1
    clear g1 k1 g3 k3
    go_enter Try.func44, Try.ntmps44
    go_wp2_with fail
    go_loopw [13] (fun i wr => ∃ k n : Nat, k ≤ l1 ∧ i = .int .i64 k ∧ wr = w.drewN n ∧ Hid (xs.take k = ys.take k)) (fun i _ => l1 - (intOf i).toNat)
    case atStart => exact ⟨0, 0, Nat.zero_le _, rfl, rfl, rfl⟩
    case round =>
      obtain ⟨k, n, hk, rfl, rfl, hall⟩ := hrel
      by_cases hlt : k < l1
      · rcases g4 with g4 | ⟨b, off, rfl, hc⟩
        · omega
        rcases k4 with k4 | ⟨b', off', rfl, hc'⟩
        · omega
        have e1 := hc k hlt
        have e2 := hc' k hlt
        clear hc hc'
        have S := Lib.hid (take_step k (by rw [G.out, K.out]) (by rw [G.out]; exact hlt) hall.out)
        have T := Lib.hid (sameL_at (a := xs) (b := ys) k)
        generalize xs.getD k 0 = x at *
        generalize ys.getD k 0 = y at *
        by_cases hxy : x = y
        · subst hxy
          have S2 := Lib.hid (S.out rfl)
          clear S T hall
          go_wp2_with fail
          go_region
          go_wp2_with fail
          go_roundw
          case rel => exact ⟨k + 1, _, by omega, by go_num, rfl, S2⟩
          case measure => (simp [intOf]; try omega)
        · have T2 := Lib.hid (T.out hxy)
          clear S T hall
          go_wp2_with fail
          go_region
          go_wp2_with fail
          go_ret
          exact ⟨ret_bool T2.out, _, rfl⟩
      · have E := Lib.hid (sameL_full k (by rw [G.out, K.out]) (by rw [G.out]; omega) hall.out)
        clear g4 k4 hall
        go_wp2_with fail
        go_ret
        exact ⟨ret_bool E.out, _, rfl⟩
  · have E := Lib.hid (sameL_len (a := xs) (b := ys) (by omega))
    clear g4 k4 g1 k1 g3 k3
    go_enter Try.func44, Try.ntmps44
    go_wp2_with fail
    go_ret
    exact ⟨ret_bool E.out, 0, rfl⟩
end Go.Proofs.Ytieegaojcjhfdaa

/-
  Contracts of package shape: with, hasDimension, Equal, Window; of its reference: Same.
-/
namespace Go.Proofs.Ytieegaojcjhfdaa
open Go.RowKit
set_option linter.unusedVariables false
set_option linter.unusedSimpArgs false

set_option maxHeartbeats 400000 in
theorem equal_any (a1 : Option Addr) (l1 c1 : Nat) (xs : List Int) (a2 : Option Addr) (l2 c2 : Nat) (ys : List Int) (w : World) (h : IntsAt w a1 l1 xs) (h' : IntsAt w a2 l2 ys) :
    Calls Try.prog 30 #[.slice a1 l1 c1, .slice a2 l2 c2] w fun e w' => e = .returned (.bool (sameL xs ys)) ∧ ∃ n, w' = w.drewN n := by
  have C := Lib.hid (sliceEqual_any a1 l1 c1 xs a2 l2 c2 ys w h h')
  obtain ⟨b, hb⟩ : ∃ b, sameL xs ys = b := ⟨_, rfl⟩
  rw [hb] at C ⊢
  clear h h' hb
  go_enter Try.func30, Try.ntmps30
  go_wp2_with fail
  refine C.out.mono ?_
  rintro e w1 ⟨rfl, n, rfl⟩
  go_wp2_with fail
  go_ret
  exact ⟨rfl, n, rfl⟩

set_option maxHeartbeats 1000000 in
theorem same_any (a1 : Option Addr) (l1 c1 : Nat) (xs : List Int) (a2 : Option Addr) (l2 c2 : Nat) (ys : List Int) (w : World) (h : IntsAt w a1 l1 xs) (h' : IntsAt w a2 l2 ys) :
    Calls Try.prog 15 #[.slice a1 l1 c1, .slice a2 l2 c2] w fun e w' => e = .returned (.bool (sameL xs ys)) ∧ ∃ n, w' = w.drewN n := by
  obtain ⟨g1, g2, g3, g4⟩ := h
  obtain ⟨k1, k2, k3, k4⟩ := h'
  by_cases el : l1 = l2
  · obtain rfl := el
    have G := Lib.hid g1
    have K := Lib.hid k1
    clear g1 k1 g3 k3
    go_enter Try.func15, Try.ntmps15
    go_wp2_with fail
    go_loopw [5] (fun i wr => ∃ k n : Nat, k ≤ l1 ∧ i = .int .i64 k ∧ wr = w.drewN n ∧ Hid (xs.take k = ys.take k)) (fun i _ => l1 - (intOf i).toNat)
    case atStart => exact ⟨0, 0, Nat.zero_le _, rfl, rfl, rfl⟩
    case round =>
      obtain ⟨k, n, hk, rfl, rfl, hall⟩ := hrel
      by_cases hlt : k < l1
      · rcases g4 with g4 | ⟨b, off, rfl, hc⟩
        · omega
        rcases k4 with k4 | ⟨b', off', rfl, hc'⟩
        · omega
        have e1 := hc k hlt
        have e2 := hc' k hlt
        clear hc hc'
        have S := Lib.hid (take_step k (by rw [G.out, K.out]) (by rw [G.out]; exact hlt) hall.out)
        have T := Lib.hid (sameL_at (a := xs) (b := ys) k)
        generalize xs.getD k 0 = x at *
        generalize ys.getD k 0 = y at *
        by_cases hxy : x = y
        · subst hxy
          have S2 := Lib.hid (S.out rfl)
          clear S T hall
          go_wp2_with fail
          go_region
          go_wp2_with fail
          go_roundw
          case rel => exact ⟨k + 1, _, by omega, by go_num, rfl, S2⟩
          case measure => (simp [intOf]; try omega)
        · have T2 := Lib.hid (T.out hxy)
          clear S T hall
          go_wp2_with fail
          go_region
          go_wp2_with fail
          go_ret
          exact ⟨ret_bool T2.out, _, rfl⟩
      · have E := Lib.hid (sameL_full k (by rw [G.out, K.out]) (by rw [G.out]; omega) hall.out)
        clear g4 k4 hall
        go_wp2_with fail
        go_ret
        exact ⟨ret_bool E.out, _, rfl⟩
  · have E := Lib.hid (sameL_len (a := xs) (b := ys) (by omega))
    clear g4 k4 g1 k1 g3 k3
    go_enter Try.func15, Try.ntmps15
    go_wp2_with fail
    go_ret
    exact ⟨ret_bool E.out, 0, rfl⟩

/-- There is such a dimension. -/
def hasD (len : Nat) (side : Int) : Bool := decide (0 ≤ side) && decide (side < len)
theorem hasD_low {len : Nat} {side : Int} (h : ¬ 0 ≤ side) : false = hasD len side := by simp [hasD]; omega
theorem hasD_high {len : Nat} {side : Int} (h : ¬ side < len) : false = hasD len side := by simp [hasD]; omega
theorem hasD_yes {len : Nat} {side : Int} (h : 0 ≤ side) (h' : side < len) : true = hasD len side := by simp [hasD, h, h']
theorem hasD_nat {len : Nat} {side : Int} (h : hasD len side = true) : ∃ k : Nat, k < len ∧ side = k := by
  simp [hasD] at h; exact ⟨side.toNat, by omega, by omega⟩

set_option maxHeartbeats 400000 in
theorem hasD_any (a : Option Addr) (len cap : Nat) (side : Int) (w : World) (hl : len ≤ 9223372036854775807) :
    Calls Try.prog 40 #[.slice a len cap, .int .i64 side] w fun e w' => e = .returned (.bool (hasD len side)) ∧ w = w' := by
  by_cases c : 0 ≤ side
  · by_cases d : side < len
    · have E := Lib.hid (hasD_yes c d)
      go_enter Try.func40, Try.ntmps40
      go_wp2_with fail
      go_ret
      exact ⟨ret_bool E.out, rfl⟩
    · have E := Lib.hid (hasD_high d)
      go_enter Try.func40, Try.ntmps40
      go_wp2_with fail
      go_ret
      exact ⟨ret_bool E.out, rfl⟩
  · have E := Lib.hid (hasD_low (len := len) c)
    go_enter Try.func40, Try.ntmps40
    go_wp2_with fail
    go_ret
    exact ⟨ret_bool E.out, rfl⟩

set_option maxHeartbeats 1000000 in
theorem with_any (a : Option Addr) (len cap : Nat) (zs : List Int) (w : World) (h : IntsAt w a len zs) (hs : len ≤ 1000) (k : Nat) (hk : k < len) (n : Int) :
    Calls Try.prog 41 #[.slice a len cap, .int .i64 k, .int .i64 n] w (NewInts w len (zs.set k n)) := by
  have C := Lib.hid (copy_any a len cap zs w h hs)
  clear h
  go_enter Try.func41, Try.ntmps41
  go_wp2_with fail
  refine C.out.mono ?_
  rintro e w1 ⟨A, c, rfl, ho, hb⟩
  obtain ⟨g, c', hv⟩ := Joins.ownsRow_form ho (by omega)
  simp only [Value.slice.injEq] at hv
  obtain ⟨rfl, -, rfl⟩ := hv
  obtain ⟨g1, g2⟩ := ho.lt g rfl
  obtain ⟨x, hx⟩ : ∃ x, w1.cell? ⟨g, k, none⟩ = some x := by
    have := ho.1
    rw [ho.cellAt k (by omega), List.getElem?_eq_getElem (by omega)]
    exact ⟨_, rfl⟩
  have hf := ho.frozenAt k
  obtain ⟨ho2, hg2⟩ := ho.stored k (.int .i64 n)
  rw [← List.map_set] at ho2
  have P : NewInts w len (zs.set k n) (.returned (.slice (some ⟨g, 0, none⟩) len c)) (w1.setCell ⟨g, k, none⟩ (.int .i64 n)) := ⟨_, c, rfl, ho2, hb.setCell g1 _⟩
  replace P := Lib.hid P
  clear ho hb ho2 hg2 C
  go_wp2_with fail
  go_ret
  exact P.out

def winN (side width step : Int) : Int := if inR 1 1024 side = true ∧ inR 1 1024 width = true ∧ inR 1 1024 step = true ∧ width ≤ side then 1 + (side - width) / step else 0
def winE (side width step : Int) : Int := if inR 1 1024 side = true ∧ inR 1 1024 width = true ∧ inR 1 1024 step = true ∧ width ≤ side then 0 else 11
theorem win_no {side width step : Int} (h : ¬ (inR 1 1024 side = true ∧ inR 1 1024 width = true ∧ inR 1 1024 step = true ∧ width ≤ side)) : 0 = winN side width step ∧ 11 = winE side width step := by
  unfold winN winE; rw [if_neg h, if_neg h]; exact ⟨rfl, rfl⟩
theorem win_yes {side width step : Int} (h : inR 1 1024 side = true ∧ inR 1 1024 width = true ∧ inR 1 1024 step = true ∧ width ≤ side) : 1 + (side - width) / step = winN side width step ∧ 0 = winE side width step := by
  unfold winN winE; rw [if_pos h, if_pos h]; exact ⟨rfl, rfl⟩

end Go.Proofs.Ytieegaojcjhfdaa
/-
  Contracts of package shape: Join, Cut.
-/
namespace Go.Proofs.Ytieegaojcjhfdaa
open Go.RowKit
set_option linter.unusedVariables false
set_option linter.unusedSimpArgs false

/-- No shape and this error; all that was there before is as it was. -/
def NilE (w : World) (x : Int) (e : Ending) (w' : World) : Prop := e = .returned (.tuple #[.slice none 0 0, .int .i64 x]) ∧ Below w.heap.size w w'
/-- A new slice of these integers and no error. -/
def NewE (w : World) (n : Nat) (zs : List Int) (e : Ending) (w' : World) : Prop :=
  ∃ A cap, e = .returned (.tuple #[.slice A n cap, .int .i64 0]) ∧ w'.ownsRow w.heap.size 3 1 (.slice A n cap) n (zs.map (Value.int .i64)) ∧ Below w.heap.size w w'

set_option maxHeartbeats 2000000 in
theorem join_wrong (a1 : Option Addr) (l1 c1 : Nat) (xs : List Int) (a2 : Option Addr) (l2 c2 : Nat) (ys : List Int) (side : Int) (w : World) (h : IntsAt w a1 l1 xs) (h' : IntsAt w a2 l2 ys)
    (hn : ¬ (rightS xs = true ∧ rightS ys = true ∧ l1 = l2)) :
    Calls Try.prog 27 #[.slice a1 l1 c1, .slice a2 l2 c2, .int .i64 side] w (NilE w 20) := by
  have C := rightM_any a1 l1 c1 xs w h
  have D := fun w1 (hb : Below w.heap.size w w1) => rightM_any a2 l2 c2 ys w1 (h'.kept hb)
  cases b1 : rightS xs
  · rw [b1] at C
    have C1 := Lib.hid C
    clear C D b1 hn h h'
    go_enter Try.func27, Try.ntmps27
    go_wp2_with fail
    refine C1.out.mono ?_
    rintro e w1 ⟨rfl, hb⟩
    go_wp2_with fail
    go_ret2
    exact ⟨rfl, hb⟩
  cases b2 : rightS ys
  · rw [b1] at C
    rw [b2] at D
    have C1 := Lib.hid C
    have D1 := Lib.hid D
    clear C D b1 b2 hn h h'
    go_enter Try.func27, Try.ntmps27
    go_wp2_with fail
    refine C1.out.mono ?_
    rintro e w1 ⟨rfl, hb⟩
    go_wp2_with fail
    refine (D1.out w1 hb).mono ?_
    rintro e w2 ⟨rfl, hb2⟩
    go_wp2_with fail
    go_ret2
    exact ⟨rfl, hb.trans (hb2.mono hb.size)⟩
  · have hne : ¬ l1 = l2 := fun e => hn ⟨b1, b2, e⟩
    have hne' : ¬ (l1 : Int) = (l2 : Int) := by omega
    rw [b1] at C
    rw [b2] at D
    have C1 := Lib.hid C
    have D1 := Lib.hid D
    clear C D b1 b2 hn h h'
    go_enter Try.func27, Try.ntmps27
    go_wp2_with fail
    refine C1.out.mono ?_
    rintro e w1 ⟨rfl, hb⟩
    go_wp2_with fail
    refine (D1.out w1 hb).mono ?_
    rintro e w2 ⟨rfl, hb2⟩
    go_wp2_with fail
    go_ret2
    exact ⟨rfl, hb.trans (hb2.mono hb.size)⟩

set_option maxHeartbeats 2000000 in
theorem join_none (a1 : Option Addr) (l1 c1 : Nat) (xs : List Int) (a2 : Option Addr) (c2 : Nat) (ys : List Int) (side : Int) (w : World) (h : IntsAt w a1 l1 xs) (h' : IntsAt w a2 l1 ys)
    (b1 : rightS xs = true) (b2 : rightS ys = true) (hd : hasD l1 side = false) :
    Calls Try.prog 27 #[.slice a1 l1 c1, .slice a2 l1 c2, .int .i64 side] w (NilE w 11) := by
  have C := rightM_any a1 l1 c1 xs w h
  have D := fun w1 (hb : Below w.heap.size w w1) => rightM_any a2 l1 c2 ys w1 (h'.kept hb)
  have E := fun w1 => hasD_any a1 l1 c1 side w1 h.2.1
  rw [b1] at C
  rw [b2] at D
  rw [hd] at E
  have C1 := Lib.hid C
  have D1 := Lib.hid D
  have E1 := Lib.hid E
  clear C D E b1 b2 h h' hd
  go_enter Try.func27, Try.ntmps27
  go_wp2_with fail
  refine C1.out.mono ?_
  rintro e w1 ⟨rfl, hb⟩
  go_wp2_with fail
  refine (D1.out w1 hb).mono ?_
  rintro e w2 ⟨rfl, hb2⟩
  go_wp2_with fail
  refine (E1.out w2).mono ?_
  rintro e w3 ⟨rfl, rfl⟩
  go_wp2_with fail
  go_ret2
  exact ⟨rfl, hb.trans (hb2.mono hb.size)⟩

set_option maxHeartbeats 4000000 in
theorem join_other (a1 : Option Addr) (l1 c1 : Nat) (xs : List Int) (a2 : Option Addr) (c2 : Nat) (ys : List Int) (k : Nat) (w : World) (h : IntsAt w a1 l1 xs) (h' : IntsAt w a2 l1 ys)
    (b1 : rightS xs = true) (b2 : rightS ys = true) (hk : k < l1) (hs : sameL (xs.set k (ys.getD k 0)) ys = false) :
    Calls Try.prog 27 #[.slice a1 l1 c1, .slice a2 l1 c2, .int .i64 k] w (NilE w 20) := by
  have hl : l1 ≤ 4 := by have := (rightS_parts b1).2.1; have := h.1; omega
  have C := rightM_any a1 l1 c1 xs w h
  have D := fun w1 (hb : Below w.heap.size w w1) => rightM_any a2 l1 c2 ys w1 (h'.kept hb)
  have E := fun w1 => hasD_any a1 l1 c1 k w1 h.2.1
  have F := fun w1 (hb : Below w.heap.size w w1) => with_any a1 l1 c1 xs w1 (h.kept hb) (by omega) k hk (ys.getD k 0)
  have G := fun w1 (hb : Below w.heap.size w w1) A cap zs (hz : IntsAt w1 A l1 zs) => equal_any A l1 cap zs a2 l1 c2 ys w1 hz (h'.kept hb)
  have hX := Lib.hid (h.2.2.1)
  have hY := Lib.hid (h'.2.2.1)
  rw [b1] at C
  rw [b2] at D
  rw [← hasD_yes (show (0 : Int) ≤ k by omega) (show (k : Int) < l1 by omega)] at E
  have C1 := Lib.hid C
  have D1 := Lib.hid D
  have E1 := Lib.hid E
  have F1 := Lib.hid F
  have G1 := Lib.hid G
  have hs1 := Lib.hid hs
  obtain ⟨b, off, rfl, hc⟩ : ∃ b off, a2 = some ⟨b, off, none⟩ ∧ w.cell? ⟨b, off + k, none⟩ = some (.int .i64 (ys.getD k 0)) := by
    rcases h'.2.2.2 with h4 | ⟨b, off, ha, hc⟩
    · omega
    · exact ⟨b, off, ha, hc k hk⟩
  have hcell := Lib.hid (fun w1 (hb : Below w.heap.size w w1) => cell_later hb hc)
  have hys := hY.out.getD k
  obtain ⟨y, hy'⟩ : ∃ y, ys.getD k 0 = y := ⟨_, rfl⟩
  rw [hy'] at hcell F1 hs1 hys
  clear C D E F G b1 b2 h h' hs hc hy'
  go_enter Try.func27, Try.ntmps27
  go_wp2_with fail
  refine C1.out.mono ?_
  rintro e w1 ⟨rfl, hb⟩
  go_wp2_with fail
  refine (D1.out w1 hb).mono ?_
  rintro e w2 ⟨rfl, hb2⟩
  replace hb2 := hb.trans (hb2.mono hb.size)
  clear hb
  go_wp2_with fail
  refine (E1.out w2).mono ?_
  rintro e w3 ⟨rfl, rfl⟩
  have hc2 := hcell.out w2 hb2
  go_wp2_with fail
  refine (F1.out w2 hb2).mono ?_
  rintro e w3 ⟨A, c, rfl, ho, hb3⟩
  replace hb3 := hb2.trans (hb3.mono hb2.size)
  have hz := Lib.hid (row_ints ho (by omega) (hX.out.set k y hys.1 hys.2))
  have H1 := G1.out w3 hb3 A c _ hz.out
  rw [hs1.out] at H1
  have H2 := Lib.hid H1
  clear ho hb2 H1 hc2
  go_wp2_with fail
  refine H2.out.mono ?_
  rintro e w4 ⟨rfl, n, rfl⟩
  go_wp2_with fail
  go_ret2
  exact ⟨rfl, below_drewN' hb3 n⟩

theorem row_kept {B : Nat} {e : TypeId} {k : Nat} {v : Value} {n : Nat} {xs : List Value} {w w' : World} (h : w.ownsRow B e k v n xs) (hb : Below w.heap.size w w') : w'.ownsRow B e k v n xs := by
  refine ⟨h.1, ?_⟩
  rcases h.2 with h2 | ⟨g, cap, cur, hv, hbg, hg, r1, r2, r3, r4⟩
  · exact .inl h2
  · exact .inr ⟨g, cap, cur, hv, hbg, by rw [hb.block g (by apply Decidable.byContradiction; intro hn; rw [Array.getElem?_eq_none (by omega)] at hg; cases hg)]; exact hg, r1, r2, r3, r4⟩

set_option maxHeartbeats 4000000 in
theorem join_big (a1 : Option Addr) (l1 c1 : Nat) (xs : List Int) (a2 : Option Addr) (c2 : Nat) (ys : List Int) (k : Nat) (w : World) (h : IntsAt w a1 l1 xs) (h' : IntsAt w a2 l1 ys)
    (b1 : rightS xs = true) (b2 : rightS ys = true) (hk : k < l1) (hs : sameL (xs.set k (ys.getD k 0)) ys = true) (hr : rightS (xs.set k (xs.getD k 0 + ys.getD k 0)) = false) :
    Calls Try.prog 27 #[.slice a1 l1 c1, .slice a2 l1 c2, .int .i64 k] w (NilE w 20) := by
  have hl : l1 ≤ 4 := by have := (rightS_parts b1).2.1; have := h.1; omega
  obtain ⟨x1, x2⟩ := allR_getD (rightS_parts b1).2.2.1 k (by have := h.1; omega)
  obtain ⟨y1, y2⟩ := allR_getD (rightS_parts b2).2.2.1 k (by have := h'.1; omega)
  have C := rightM_any a1 l1 c1 xs w h
  have D := fun w1 (hb : Below w.heap.size w w1) => rightM_any a2 l1 c2 ys w1 (h'.kept hb)
  have E := fun w1 => hasD_any a1 l1 c1 k w1 h.2.1
  have F := fun w1 (hb : Below w.heap.size w w1) n => with_any a1 l1 c1 xs w1 (h.kept hb) (by omega) k hk n
  have G := fun w1 (hb : Below w.heap.size w w1) A cap zs (hz : IntsAt w1 A l1 zs) => equal_any A l1 cap zs a2 l1 c2 ys w1 hz (h'.kept hb)
  have hX := Lib.hid (h.2.2.1)
  rw [b1] at C
  rw [b2] at D
  rw [← hasD_yes (show (0 : Int) ≤ k by omega) (show (k : Int) < l1 by omega)] at E
  have C1 := Lib.hid C
  have D1 := Lib.hid D
  have E1 := Lib.hid E
  have F1 := Lib.hid F
  have G1 := Lib.hid G
  have hs1 := Lib.hid hs
  have hr1 := Lib.hid hr
  obtain ⟨b, off, rfl, hc⟩ : ∃ b off, a2 = some ⟨b, off, none⟩ ∧ w.cell? ⟨b, off + k, none⟩ = some (.int .i64 (ys.getD k 0)) := by
    rcases h'.2.2.2 with h4 | ⟨b, off, ha, hc⟩
    · omega
    · exact ⟨b, off, ha, hc k hk⟩
  obtain ⟨b', off', rfl, hc'⟩ : ∃ b off, a1 = some ⟨b, off, none⟩ ∧ w.cell? ⟨b, off + k, none⟩ = some (.int .i64 (xs.getD k 0)) := by
    rcases h.2.2.2 with h4 | ⟨b, off, ha, hc⟩
    · omega
    · exact ⟨b, off, ha, hc k hk⟩
  have hcell := Lib.hid (fun w1 (hb : Below w.heap.size w w1) => cell_later hb hc)
  have hcell' := Lib.hid (fun w1 (hb : Below w.heap.size w w1) => cell_later hb hc')
  obtain ⟨y, hy'⟩ : ∃ y, ys.getD k 0 = y := ⟨_, rfl⟩
  obtain ⟨x, hx'⟩ : ∃ x, xs.getD k 0 = x := ⟨_, rfl⟩
  rw [hy'] at hcell hs1 hr1 y1 y2
  rw [hx'] at hcell' hr1 x1 x2
  clear C D E F G b1 b2 h h' hs hr hc hc' hy' hx'
  go_enter Try.func27, Try.ntmps27
  go_wp2_with fail
  refine C1.out.mono ?_
  rintro e w1 ⟨rfl, hb⟩
  go_wp2_with fail
  refine (D1.out w1 hb).mono ?_
  rintro e w2 ⟨rfl, hb2⟩
  replace hb2 := hb.trans (hb2.mono hb.size)
  clear hb
  go_wp2_with fail
  refine (E1.out w2).mono ?_
  rintro e w3 ⟨rfl, rfl⟩
  have hc2 := hcell.out w2 hb2
  go_wp2_with fail
  refine (F1.out w2 hb2 y).mono ?_
  rintro e w3 ⟨A, c, rfl, ho, hb3⟩
  replace hb3 := hb2.trans (hb3.mono hb2.size)
  have hz := Lib.hid (row_ints ho (by omega) (hX.out.set k y (by omega) (by omega)))
  have H1 := G1.out w3 hb3 A c _ hz.out
  rw [hs1.out] at H1
  have H2 := Lib.hid H1
  clear ho hb2 H1 hc2
  go_wp2_with fail
  refine H2.out.mono ?_
  rintro e w4 ⟨rfl, n, hW⟩
  have hb4 : Below w.heap.size w w4 := by rw [hW]; exact below_drewN' hb3 n
  clear hW H2 hb3
  have hc3 := hcell.out w4 hb4
  have hc4 := hcell'.out w4 hb4
  have r1 : IntKind.i64.wrap (x + y) = x + y := IntWalk.i64_in _ (by omega)
  go_wp2_with fail
  go_region_with (go_at_call 41; refine (F1.out _ (by first | exact hb4 | exact hb4.drew | exact below_drewN' hb4 _) (x + y)).mono ?_; rintro e w5 ⟨A2, c2', rfl, ho2, hb5⟩)
  all_goals
    have hb6 : Below w.heap.size w w5 := hb4.drew.trans (hb5.mono hb4.size)
    have hz5 := row_ints ho2 (by omega) (hX.out.set k (x + y) (by omega) (by omega))
    have R1 := rightM_any A2 l1 c2' _ w5 hz5
    rw [hr1.out] at R1
    have R2 := Lib.hid R1
    clear R1 hz5 ho2 hb5 hb4 hc3 hc4 r1
    go_wp2_with fail
    refine R2.out.mono ?_
    rintro e w6 ⟨rfl, hb7⟩
    go_wp2_with fail
    go_ret2
    exact ⟨rfl, hb6.trans (hb7.mono hb6.size)⟩

set_option maxHeartbeats 4000000 in
theorem join_ok (a1 : Option Addr) (l1 c1 : Nat) (xs : List Int) (a2 : Option Addr) (c2 : Nat) (ys : List Int) (k : Nat) (w : World) (h : IntsAt w a1 l1 xs) (h' : IntsAt w a2 l1 ys)
    (b1 : rightS xs = true) (b2 : rightS ys = true) (hk : k < l1) (hs : sameL (xs.set k (ys.getD k 0)) ys = true) (hr : rightS (xs.set k (xs.getD k 0 + ys.getD k 0)) = true) :
    Calls Try.prog 27 #[.slice a1 l1 c1, .slice a2 l1 c2, .int .i64 k] w (NewE w l1 (xs.set k (xs.getD k 0 + ys.getD k 0))) := by
  have hl : l1 ≤ 4 := by have := (rightS_parts b1).2.1; have := h.1; omega
  obtain ⟨x1, x2⟩ := allR_getD (rightS_parts b1).2.2.1 k (by have := h.1; omega)
  obtain ⟨y1, y2⟩ := allR_getD (rightS_parts b2).2.2.1 k (by have := h'.1; omega)
  have C := rightM_any a1 l1 c1 xs w h
  have D := fun w1 (hb : Below w.heap.size w w1) => rightM_any a2 l1 c2 ys w1 (h'.kept hb)
  have E := fun w1 => hasD_any a1 l1 c1 k w1 h.2.1
  have F := fun w1 (hb : Below w.heap.size w w1) n => with_any a1 l1 c1 xs w1 (h.kept hb) (by omega) k hk n
  have G := fun w1 (hb : Below w.heap.size w w1) A cap zs (hz : IntsAt w1 A l1 zs) => equal_any A l1 cap zs a2 l1 c2 ys w1 hz (h'.kept hb)
  have hX := Lib.hid (h.2.2.1)
  rw [b1] at C
  rw [b2] at D
  rw [← hasD_yes (show (0 : Int) ≤ k by omega) (show (k : Int) < l1 by omega)] at E
  have C1 := Lib.hid C
  have D1 := Lib.hid D
  have E1 := Lib.hid E
  have F1 := Lib.hid F
  have G1 := Lib.hid G
  have hs1 := Lib.hid hs
  have hr1 := Lib.hid hr
  obtain ⟨b, off, rfl, hc⟩ : ∃ b off, a2 = some ⟨b, off, none⟩ ∧ w.cell? ⟨b, off + k, none⟩ = some (.int .i64 (ys.getD k 0)) := by
    rcases h'.2.2.2 with h4 | ⟨b, off, ha, hc⟩
    · omega
    · exact ⟨b, off, ha, hc k hk⟩
  obtain ⟨b', off', rfl, hc'⟩ : ∃ b off, a1 = some ⟨b, off, none⟩ ∧ w.cell? ⟨b, off + k, none⟩ = some (.int .i64 (xs.getD k 0)) := by
    rcases h.2.2.2 with h4 | ⟨b, off, ha, hc⟩
    · omega
    · exact ⟨b, off, ha, hc k hk⟩
  have hcell := Lib.hid (fun w1 (hb : Below w.heap.size w w1) => cell_later hb hc)
  have hcell' := Lib.hid (fun w1 (hb : Below w.heap.size w w1) => cell_later hb hc')
  obtain ⟨y, hy'⟩ : ∃ y, ys.getD k 0 = y := ⟨_, rfl⟩
  obtain ⟨x, hx'⟩ : ∃ x, xs.getD k 0 = x := ⟨_, rfl⟩
  rw [hy'] at hcell hs1 hr1 y1 y2
  rw [hx'] at hcell' hr1 x1 x2
  rw [hx', hy']
  clear C D E F G b1 b2 h h' hs hr hc hc' hy' hx'
  go_enter Try.func27, Try.ntmps27
  go_wp2_with fail
  refine C1.out.mono ?_
  rintro e w1 ⟨rfl, hb⟩
  go_wp2_with fail
  refine (D1.out w1 hb).mono ?_
  rintro e w2 ⟨rfl, hb2⟩
  replace hb2 := hb.trans (hb2.mono hb.size)
  clear hb
  go_wp2_with fail
  refine (E1.out w2).mono ?_
  rintro e w3 ⟨rfl, rfl⟩
  have hc2 := hcell.out w2 hb2
  go_wp2_with fail
  refine (F1.out w2 hb2 y).mono ?_
  rintro e w3 ⟨A, c, rfl, ho, hb3⟩
  replace hb3 := hb2.trans (hb3.mono hb2.size)
  have hz := Lib.hid (row_ints ho (by omega) (hX.out.set k y (by omega) (by omega)))
  have H1 := G1.out w3 hb3 A c _ hz.out
  rw [hs1.out] at H1
  have H2 := Lib.hid H1
  clear ho hb2 H1 hc2
  go_wp2_with fail
  refine H2.out.mono ?_
  rintro e w4 ⟨rfl, n, hW⟩
  have hb4 : Below w.heap.size w w4 := by rw [hW]; exact below_drewN' hb3 n
  clear hW H2 hb3
  have hc3 := hcell.out w4 hb4
  have hc4 := hcell'.out w4 hb4
  have r1 : IntKind.i64.wrap (x + y) = x + y := IntWalk.i64_in _ (by omega)
  go_wp2_with fail
  go_region_with (go_at_call 41; refine (F1.out _ (by first | exact hb4 | exact hb4.drew | exact below_drewN' hb4 _) (x + y)).mono ?_; rintro e w5 ⟨A2, c2', rfl, ho2, hb5⟩)
  all_goals
    have hb6 : Below w.heap.size w w5 := hb4.drew.trans (hb5.mono hb4.size)
    have hz5 := row_ints ho2 (by omega) (hX.out.set k (x + y) (by omega) (by omega))
    have R1 := rightM_any A2 l1 c2' _ w5 hz5
    rw [hr1.out] at R1
    have R2 := Lib.hid R1
    have P0 : ∀ w6, Below w5.heap.size w5 w6 → NewE w l1 (xs.set k (x + y)) (.returned (.tuple #[.slice A2 l1 c2', .int .i64 0])) w6 := fun w6 hb7 =>
      ⟨_, _, rfl, row_kept (Joins.ownsRow_le ho2 hb4.size) hb7, hb6.trans (hb7.mono hb6.size)⟩
    have P := Lib.hid P0
    clear R1 hz5 ho2 hb5 hb4 hc3 hc4 r1 P0
    go_wp2_with fail
    refine R2.out.mono ?_
    rintro e w6 ⟨rfl, hb7⟩
    have P6 := Lib.hid (P.out w6 hb7)
    go_wp2_with fail
    go_ret2
    exact P6.out
end Go.Proofs.Ytieegaojcjhfdaa

/-
  Contracts of package shape: Cut, Place.
-/
namespace Go.Proofs.Ytieegaojcjhfdaa
open Go.RowKit
set_option linter.unusedVariables false
set_option linter.unusedSimpArgs false

set_option maxHeartbeats 2000000 in
theorem cut_wrong (a : Option Addr) (len cap : Nat) (zs : List Int) (side fr to : Int) (w : World) (h : IntsAt w a len zs) (hn : rightS zs = false) :
    Calls Try.prog 33 #[.slice a len cap, .int .i64 side, .int .i64 fr, .int .i64 to] w (NilE w 20) := by
  have C := rightM_any a len cap zs w h
  rw [hn] at C
  have C1 := Lib.hid C
  clear C hn h
  go_enter Try.func33, Try.ntmps33
  go_wp2_with fail
  refine C1.out.mono ?_
  rintro e w1 ⟨rfl, hb⟩
  go_wp2_with fail
  go_ret2
  exact ⟨rfl, hb⟩

set_option maxHeartbeats 2000000 in
theorem cut_side (a : Option Addr) (len cap : Nat) (zs : List Int) (side fr to : Int) (w : World) (h : IntsAt w a len zs) (b1 : rightS zs = true) (hd : hasD len side = false) :
    Calls Try.prog 33 #[.slice a len cap, .int .i64 side, .int .i64 fr, .int .i64 to] w (NilE w 11) := by
  have C := rightM_any a len cap zs w h
  have E := fun w1 => hasD_any a len cap side w1 h.2.1
  rw [b1] at C
  rw [hd] at E
  have C1 := Lib.hid C
  have E1 := Lib.hid E
  clear C E b1 hd h
  go_enter Try.func33, Try.ntmps33
  go_wp2_with fail
  refine C1.out.mono ?_
  rintro e w1 ⟨rfl, hb⟩
  go_wp2_with fail
  refine (E1.out w1).mono ?_
  rintro e w2 ⟨rfl, rfl⟩
  go_wp2_with fail
  go_ret2
  exact ⟨rfl, hb⟩

set_option maxHeartbeats 2000000 in
theorem cut_part (a : Option Addr) (len cap : Nat) (zs : List Int) (k : Nat) (fr to : Int) (w : World) (h : IntsAt w a len zs) (b1 : rightS zs = true) (hk : k < len)
    (hn : ¬ (0 ≤ fr ∧ to ≤ zs.getD k 0 ∧ fr < to)) :
    Calls Try.prog 33 #[.slice a len cap, .int .i64 k, .int .i64 fr, .int .i64 to] w (NilE w 11) := by
  have C := rightM_any a len cap zs w h
  have E := fun w1 => hasD_any a len cap k w1 h.2.1
  rw [b1] at C
  rw [← hasD_yes (show (0 : Int) ≤ k by omega) (show (k : Int) < len by omega)] at E
  have C1 := Lib.hid C
  have E1 := Lib.hid E
  obtain ⟨b, off, rfl, hc⟩ : ∃ b off, a = some ⟨b, off, none⟩ ∧ w.cell? ⟨b, off + k, none⟩ = some (.int .i64 (zs.getD k 0)) := by
    rcases h.2.2.2 with h4 | ⟨b, off, ha, hc⟩
    · omega
    · exact ⟨b, off, ha, hc k hk⟩
  have hcell := Lib.hid (fun w1 (hb : Below w.heap.size w w1) => cell_later hb hc)
  have hl := h.2.1
  clear C E b1 h hc
  generalize zs.getD k 0 = x at *
  by_cases c1 : fr < 0
  · clear hn
    go_enter Try.func33, Try.ntmps33
    go_wp2_with fail
    refine C1.out.mono ?_
    rintro e w1 ⟨rfl, hb⟩
    go_wp2_with fail
    refine (E1.out w1).mono ?_
    rintro e w2 ⟨rfl, rfl⟩
    go_wp2_with fail
    go_ret2
    exact ⟨rfl, hb⟩
  by_cases c2 : x < to
  · clear hn
    go_enter Try.func33, Try.ntmps33
    go_wp2_with fail
    refine C1.out.mono ?_
    rintro e w1 ⟨rfl, hb⟩
    go_wp2_with fail
    refine (E1.out w1).mono ?_
    rintro e w2 ⟨rfl, rfl⟩
    have hc1 := hcell.out w1 hb
    go_wp2_with fail
    go_ret2
    exact ⟨rfl, hb⟩
  · have c3 : to ≤ fr := by omega
    clear hn
    go_enter Try.func33, Try.ntmps33
    go_wp2_with fail
    refine C1.out.mono ?_
    rintro e w1 ⟨rfl, hb⟩
    go_wp2_with fail
    refine (E1.out w1).mono ?_
    rintro e w2 ⟨rfl, rfl⟩
    have hc1 := hcell.out w1 hb
    go_wp2_with fail
    go_ret2
    exact ⟨rfl, hb⟩

set_option maxHeartbeats 2000000 in
theorem cut_ok (a : Option Addr) (len cap : Nat) (zs : List Int) (k : Nat) (fr to : Int) (w : World) (h : IntsAt w a len zs) (b1 : rightS zs = true) (hk : k < len)
    (n1 : 0 ≤ fr) (n2 : to ≤ zs.getD k 0) (n3 : fr < to) :
    Calls Try.prog 33 #[.slice a len cap, .int .i64 k, .int .i64 fr, .int .i64 to] w (NewE w len (zs.set k (to - fr))) := by
  have hl : len ≤ 4 := by have := (rightS_parts b1).2.1; have := h.1; omega
  obtain ⟨x1, x2⟩ := allR_getD (rightS_parts b1).2.2.1 k (by have := h.1; omega)
  have C := rightM_any a len cap zs w h
  have E := fun w1 => hasD_any a len cap k w1 h.2.1
  have F := fun w1 (hb : Below w.heap.size w w1) n => with_any a len cap zs w1 (h.kept hb) (by omega) k hk n
  rw [b1] at C
  rw [← hasD_yes (show (0 : Int) ≤ k by omega) (show (k : Int) < len by omega)] at E
  have C1 := Lib.hid C
  have E1 := Lib.hid E
  have F1 := Lib.hid F
  obtain ⟨b, off, rfl, hc⟩ : ∃ b off, a = some ⟨b, off, none⟩ ∧ w.cell? ⟨b, off + k, none⟩ = some (.int .i64 (zs.getD k 0)) := by
    rcases h.2.2.2 with h4 | ⟨b, off, ha, hc⟩
    · omega
    · exact ⟨b, off, ha, hc k hk⟩
  have hcell := Lib.hid (fun w1 (hb : Below w.heap.size w w1) => cell_later hb hc)
  clear C E F b1 h hc
  generalize zs.getD k 0 = x at *
  go_enter Try.func33, Try.ntmps33
  go_wp2_with fail
  refine C1.out.mono ?_
  rintro e w1 ⟨rfl, hb⟩
  go_wp2_with fail
  refine (E1.out w1).mono ?_
  rintro e w2 ⟨rfl, rfl⟩
  have hc1 := hcell.out w1 hb
  go_wp2_with fail
  refine (F1.out w1 hb (to - fr)).mono ?_
  rintro e w2 ⟨A, c, rfl, ho, hb2⟩
  have P := Lib.hid (show NewE w len (zs.set k (to - fr)) (.returned (.tuple #[.slice A len c, .int .i64 0])) w2 from ⟨A, c, rfl, Joins.ownsRow_le ho hb.size, hb.trans (hb2.mono hb.size)⟩)
  clear ho hb2
  go_wp2_with fail
  go_ret2
  exact P.out

end Go.Proofs.Ytieegaojcjhfdaa
