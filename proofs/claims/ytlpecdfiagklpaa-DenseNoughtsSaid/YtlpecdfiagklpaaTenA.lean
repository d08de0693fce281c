/-
  Contracts of package tensor: cells copied, compared; a tensor as a value.
-/
import Derived.Test.YtlpecdfiagklpaaShapeS
namespace Go.Proofs.Ytlpecdfiagklpaa
open Go.RowKit
set_option linter.unusedVariables false
set_option linter.unusedSimpArgs false

theorem fInfo : (Try.prog.info? 47).map (fun i => (i.zero, i.size, i.bytes)) = some (some (.int .i64 0), 1, 8) := by kernel_rfl

/-- What came back is a new slice of these numbers; all that was there before is as it was. -/
def NewFs (w : World) (n : Nat) (zs : List Int) (e : Ending) (w' : World) : Prop :=
  ∃ A cap, e = .returned (.slice A n cap) ∧ w'.ownsRow w.heap.size 47 1 (.slice A n cap) n (zs.map (Value.int .i64)) ∧ Below w.heap.size w w'

set_option maxHeartbeats 2000000 in
theorem cloneF_any (a : Option Addr) (len cap : Nat) (zs : List Int) (w : World) (h : IntsAt w a len zs) (hs : len ≤ 1000) :
    Calls Try.prog 39 #[.slice a len cap] w (NewFs w len zs) := by
  have q : ∀ (w : World) (a : Option Addr) (n c n' c' : Nat), (binOp .eql 24 (.slice a n c) (.slice none n' c')).run Try.prog w = .ok (.bool a.isNone) w := fun w a n c n' c' => Lib.run_eql_slice_nil w _ _ a n c n' c' Try.underlying24
  obtain ⟨i0, hi, hz0, hz1, hz2⟩ := info_parts fInfo
  cases a with
  | none =>
    have e0 : len = 0 := by
      rcases h.2.2.2 with h4 | ⟨b, off, ha, _⟩
      · exact h4
      · cases ha
    subst e0
    have e1 : zs = [] := List.length_eq_zero_iff.1 h.1
    subst e1
    clear h
    go_enter Try.func39, Try.ntmps39
    go_wp2_with fail
    go_ret
    exact ⟨none, 0, rfl, World.ownsRow_nil _ _ _ _, Below.refl _ _⟩
  | some ad =>
    have C := cells_news h (.cells #[] 47)
    have hl : zs.length = len := h.1
    clear h
    have A : Hid (∀ j u, (zs.map (Value.int .i64))[j]? = some u → (w.alloc (.cells #[] 47)).cell? (ad.add j) = some u) := C
    clear C
    have hl' := Lib.hid hl
    clear hl
    go_enter Try.func39, Try.ntmps39
    go_wp2_with (at_builtin; refine wpList_append_own _ rfl _ _ 24 rfl w.heap.size 47 i0 (.int .i64 0) 1 8 Try.underlying24 hi hz0 hz1 hz2 rfl (by decide) _ _ _ rfl (World.ownsRow_made w #[] 0 (Nat.le_refl _) (Nat.zero_le _) rfl) ad len cap (zs.map (Value.int .i64)) rfl ?c1 ?c2 ?c3 ?c4 ?c5 ?c6 ?_)
    case c1 => rw [List.length_map, hl'.out, Nat.mul_one]
    case c2 => exact A.out
    case c3 => intro u hu; obtain ⟨x, _, rfl⟩ := List.mem_map.1 hu; rfl
    case c4 => unfold maxLen; omega
    case c5 => omega
    case c6 => simp
    intro v' w1 hown hgrow hnil
    have hb := ((Below.refl w.heap.size w).alloc (Nat.le_refl _) (.cells #[] 47)).grown hgrow (by simp) (by intro k hk; simp [Value.ownBlock] at hk; omega)
    have P : NewFs w len zs (.returned v') w1 := by
      rcases Joins.ownsRow_forms hown with ⟨rfl, e0⟩ | ⟨g, c, rfl⟩
      · subst e0; exact ⟨_, _, rfl, hown, hb⟩
      · exact ⟨_, _, rfl, hown, hb⟩
    replace P := Lib.hid P
    clear hown hgrow hnil hb
    go_wp2_with fail
    go_ret
    exact P.out


set_option maxHeartbeats 1000000 in
theorem sliceEqualF_any (a1 : Option Addr) (l1 c1 : Nat) (xs : List Int) (a2 : Option Addr) (l2 c2 : Nat) (ys : List Int) (w : World) (h : IntsAt w a1 l1 xs) (h' : IntsAt w a2 l2 ys) :
    Calls Try.prog 45 #[.slice a1 l1 c1, .slice a2 l2 c2] w fun e w' => e = .returned (.bool (sameL xs ys)) ∧ ∃ n, w' = w.drewN n := by
  obtain ⟨g1, g2, g3, g4⟩ := h
  obtain ⟨k1, k2, k3, k4⟩ := h'
  by_cases el : l1 = l2
  · obtain rfl := el
    have G := Lib.hid g1
    have K := Lib.hid k1
    clear g1 k1 g3 k3
    go_enter Try.func45, Try.ntmps45
    go_wp2_with fail
    go_loopw [13] (fun i wr => ∃ k n : Nat, k ≤ l1 ∧ i = .int .i64 k ∧ wr = w.drewN n ∧ Hid (xs.take k = ys.take k)) (fun i _ => l1 - (intOf i).toNat)
    case atStart => exact ⟨0, 0, Nat.zero_le _, rfl, rfl, rfl⟩
    case round =>
      obtain ⟨k, n, hk, rfl, rfl, hall⟩ := hrel
      by_cases hlt : k < l1
      · rcases g4 with g4 | ⟨b, off, rfl, hc⟩
        · omega
        rcases k4 with k4 | ⟨b', off', rfl, hc'⟩
        · omega
        have e1 := hc k hlt
        have e2 := hc' k hlt
        clear hc hc'
        have S := Lib.hid (take_step k (by rw [G.out, K.out]) (by rw [G.out]; exact hlt) hall.out)
        have T := Lib.hid (sameL_at (a := xs) (b := ys) k)
        generalize xs.getD k 0 = x at *
        generalize ys.getD k 0 = y at *
        by_cases hxy : x = y
        · subst hxy
          have S2 := Lib.hid (S.out rfl)
          clear S T hall
          go_wp2_with fail
          go_region
          go_wp2_with fail
          go_roundw
          case rel => exact ⟨k + 1, _, by omega, by go_num, rfl, S2⟩
          case measure => (simp [intOf]; try omega)
        · have T2 := Lib.hid (T.out hxy)
          clear S T hall
          go_wp2_with fail
          go_region
          go_wp2_with fail
          go_ret
          exact ⟨ret_bool T2.out, _, rfl⟩
      · have E := Lib.hid (sameL_full k (by rw [G.out, K.out]) (by rw [G.out]; omega) hall.out)
        clear g4 k4 hall
        go_wp2_with fail
        go_ret
        exact ⟨ret_bool E.out, _, rfl⟩
  · have E := Lib.hid (sameL_len (a := xs) (b := ys) (by omega))
    clear g4 k4 g1 k1 g3 k3
    go_enter Try.func45, Try.ntmps45
    go_wp2_with fail
    go_ret
    exact ⟨ret_bool E.out, 0, rfl⟩
end Go.Proofs.Ytlpecdfiagklpaa
