/-
  The statement ShapeCutsSaid: for every input the statement's function returns true, and every argument reads afterwards as it read before. No condition but those of the row itself.
-/
import Derived.Test.YtieajkpjkhdjeaaRows
import Derived.Test.YtieajkpjkhdjeaaShapeCutsW
import Derived.Test.YtieajkpjkhdjeaaOpen
import Derived.WalkKit
import Derived.ProofKit
import Derived.OpenShut
import Derived.ShutString
import Derived.ChangeOld
import Derived.Below
import Derived.Carry
namespace Go.Proofs.Ytieajkpjkhdjeaa.shapeCuts
open Go.ChangeShapes Go.WideShapes Go.ChangeAt Go.RowKit
set_option linter.unusedVariables false
set_option linter.unusedSimpArgs false

theorem own : ownKnob Try.prog.godebug = none := by kernel_rfl
theorem laidOut : laidOutB Try.prog = true := by kernel_rfl

set_option maxRecDepth 100000 in
theorem lifted (os : Os) (started : os.Started) (H : Type) (enc : TypeId × Value → H) :
    ReturnsInHanded {} Try.checked os 7 .any (Rows.shapeCutsSpec.pre6 enc Try.prog Try.f7 Rows.shapeCutsRow.domain false) (Rows.shapeCutsSpec.post enc Try.prog Try.f7 false true false false) := by
  refine returnsInHanded_of_change (C := Try.checked) own started (by kernel_rfl) Try.func7
    (ChangeSpec.witness6 (enc := enc) (C := Try.checked) false ⟨#[], #[.agg #[.slice none 0 0, .slice none 0 0, .int .i64 0, .int .i64 0, .int .i64 0]], []⟩ 8 (by kernel_rfl) (by kernel_rfl) (by kernel_rfl) (by kernel_rfl)) ?_
  intro W base args ds gs before hval0 hW hcnd _
  have hval : ∀ (j : Nat) t v, Try.f7.params[j]? = some t → args[j]? = some v → Value.okWide Try.prog W .any base t v := hval0
  have hW' := hW
  obtain ⟨p, q, hA0, hV, rfl, hfz, hnd⟩ := hW
  have hA : DataW.TrodAll enc Try.prog W 0 (fun _ => true) true Try.f7.params.toList args.toList ds p := hA0
  rw [Try.params7] at hA hval
  obtain ⟨v0, vs0, d0, ds0, p0, q0, hargs, rfl, rfl, h0, r0⟩ := trodAll_cons hA
  obtain ⟨rfl, rfl, rfl⟩ := trodAll_nil r0
  obtain rfl : args = #[v0] := by cases args; simp_all
  obtain ⟨rfl, rfl⟩ := trodVars_none hV
  have lt0 : ∀ x ∈ p0, x.block < W.heap.size := by obtain ⟨m, hm⟩ := h0; exact DataW.trod_lt m _ _ _ hm
  have k0 := h0
  obtain ⟨cs0, fu0, rfl, hl0, hf0⟩ := agg_open Try.underlying39 (by kernel_rfl) (by kernel_rfl) (hval 0 39 v0 rfl rfl) h0
  replace hl0 : cs0.length = 5 := hl0
  obtain ⟨c0_0, y0_0, e0_0, g0_0⟩ := hf0 0 _ rfl
  obtain ⟨c0_1, y0_1, e0_1, g0_1⟩ := hf0 1 _ rfl
  obtain ⟨c0_2, y0_2, e0_2, g0_2⟩ := hf0 2 _ rfl
  obtain ⟨c0_3, y0_3, e0_3, g0_3⟩ := hf0 3 _ rfl
  obtain ⟨c0_4, y0_4, e0_4, g0_4⟩ := hf0 4 _ rfl
  obtain rfl : cs0 = [c0_0, c0_1, c0_2, c0_3, c0_4] := list5 hl0 e0_0 e0_1 e0_2 e0_3 e0_4
  obtain ⟨a0_0, len0_0, cap0_0, z0_0, rfl, w0_0⟩ := field_ints Try.underlying23 Try.underlying3 (by kernel_rfl) g0_0
  obtain ⟨a0_1, len0_1, cap0_1, z0_1, rfl, w0_1⟩ := field_ints Try.underlying23 Try.underlying3 (by kernel_rfl) g0_1
  obtain ⟨a0_2, rfl, b0_2, c0_2⟩ := field_int Try.underlying3 g0_2
  obtain ⟨a0_3, rfl, b0_3, c0_3⟩ := field_int Try.underlying3 g0_3
  obtain ⟨a0_4, rfl, b0_4, c0_4⟩ := field_int Try.underlying3 g0_4
  clear hA0 hval0
  refine (shapeCuts_walk a0_0 len0_0 cap0_0 z0_0 a0_1 len0_1 cap0_1 z0_1 a0_2 a0_3 a0_4 W w0_0 w0_1 b0_2 c0_2 b0_3 c0_3 b0_4 c0_4).mono fun e W' ⟨he, bel⟩ => ?_
  subst he
  exact ⟨_, rfl, _, _, _, [], _, [], hW', trodAll_mk1 (shut_bool Try.underlying4 _), (trodAll_cons_mk (Below.trod laidOut (by kernel_rfl) (of_decide_eq_true (by kernel_rfl)) k0 bel lt0) trodAll_mk0), rfl, bel.frame _, fun h => by cases h⟩

theorem over : Rows.shapeCutsRow.holds Try.pinned (OpenSpec.ofChange Rows.shapeCutsSpec) :=
  OpenClaim.holds_of_wide 7 Try.f7 rfl rfl rfl rfl rfl rfl rfl ⟨rfl, rfl, rfl, rfl, rfl⟩ rfl rfl rfl rfl rfl (by kernel_rfl) Try.func7 (by kernel_rfl)
    (of_decide_eq_true (by kernel_rfl)) (by unfold Func.isWrapper; first | (rw [if_pos (by decide +kernel)]; kernel_rfl) | (rw [if_neg (by decide +kernel)]; exact ⟨rfl, rfl⟩))
    (fun os started H enc _ => lifted os started H enc)

theorem proved : Rows.ShapeCutsSaid := over
#print axioms proved
end Go.Proofs.Ytieajkpjkhdjeaa.shapeCuts
