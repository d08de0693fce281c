/-
  Contracts of package tensor: cells copied, compared; a tensor as a value.
-/
import Derived.Test.YtilocmdanjekhaaShapeS
namespace Go.Proofs.Ytilocmdanjekhaa
open Go.RowKit
set_option linter.unusedVariables false
set_option linter.unusedSimpArgs false

theorem fInfo : (Try.prog.info? 22).map (fun i => (i.zero, i.size, i.bytes)) = some (some (.int .i64 0), 1, 8) := by kernel_rfl

/-- What came back is a new slice of these numbers; all that was there before is as it was. -/
def NewFs (w : World) (n : Nat) (zs : List Int) (e : Ending) (w' : World) : Prop :=
  ∃ A cap, e = .returned (.slice A n cap) ∧ w'.ownsRow w.heap.size 22 1 (.slice A n cap) n (zs.map (Value.int .i64)) ∧ Below w.heap.size w w'

set_option maxHeartbeats 2000000 in
theorem cloneF_any (a : Option Addr) (len cap : Nat) (zs : List Int) (w : World) (h : IntsAt w a len zs) (hs : len ≤ 1000) :
    Calls Try.prog 38 #[.slice a len cap] w (NewFs w len zs) := by
  have q : ∀ (w : World) (a : Option Addr) (n c n' c' : Nat), (binOp .eql 28 (.slice a n c) (.slice none n' c')).run Try.prog w = .ok (.bool a.isNone) w := fun w a n c n' c' => Lib.run_eql_slice_nil w _ _ a n c n' c' Try.underlying28
  obtain ⟨i0, hi, hz0, hz1, hz2⟩ := info_parts fInfo
  cases a with
  | none =>
    have e0 : len = 0 := by
      rcases h.2.2.2 with h4 | ⟨b, off, ha, _⟩
      · exact h4
      · cases ha
    subst e0
    have e1 : zs = [] := List.length_eq_zero_iff.1 h.1
    subst e1
    clear h
    go_enter Try.func38, Try.ntmps38
    go_wp2_with fail
    go_ret
    exact ⟨none, 0, rfl, World.ownsRow_nil _ _ _ _, Below.refl _ _⟩
  | some ad =>
    have C := cells_news h (.cells #[] 22)
    have hl : zs.length = len := h.1
    clear h
    have A : Hid (∀ j u, (zs.map (Value.int .i64))[j]? = some u → (w.alloc (.cells #[] 22)).cell? (ad.add j) = some u) := C
    clear C
    have hl' := Lib.hid hl
    clear hl
    go_enter Try.func38, Try.ntmps38
    go_wp2_with (at_builtin; refine wpList_append_own _ rfl _ _ 28 rfl w.heap.size 22 i0 (.int .i64 0) 1 8 Try.underlying28 hi hz0 hz1 hz2 rfl (by decide) _ _ _ rfl (World.ownsRow_made w #[] 0 (Nat.le_refl _) (Nat.zero_le _) rfl) ad len cap (zs.map (Value.int .i64)) rfl ?c1 ?c2 ?c3 ?c4 ?c5 ?c6 ?_)
    case c1 => rw [List.length_map, hl'.out, Nat.mul_one]
    case c2 => exact A.out
    case c3 => intro u hu; obtain ⟨x, _, rfl⟩ := List.mem_map.1 hu; rfl
    case c4 => unfold maxLen; omega
    case c5 => omega
    case c6 => simp
    intro v' w1 hown hgrow hnil
    have hb := ((Below.refl w.heap.size w).alloc (Nat.le_refl _) (.cells #[] 22)).grown hgrow (by simp) (by intro k hk; simp [Value.ownBlock] at hk; omega)
    have P : NewFs w len zs (.returned v') w1 := by
      rcases Joins.ownsRow_forms hown with ⟨rfl, e0⟩ | ⟨g, c, rfl⟩
      · subst e0; exact ⟨_, _, rfl, hown, hb⟩
      · exact ⟨_, _, rfl, hown, hb⟩
    replace P := Lib.hid P
    clear hown hgrow hnil hb
    go_wp2_with fail
    go_ret
    exact P.out


end Go.Proofs.Ytilocmdanjekhaa