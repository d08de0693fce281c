/-
  slices.Backward over a slice of integers: the contract of its closure.
-/
import Derived.Test.YtieajkpjkhdjeaaRange
import Derived.Test.YtieajkpjkhdjeaaOwn
import Derived.RangeFuncCalls
import Derived.Shelf.RegionOpen
import Derived.OwnWalkIn
import Derived.TacticsInMore
import Derived.LoopNIn
import Derived.LoopIn
namespace Go.Proofs.Ytieajkpjkhdjeaa
open Go.RowKit Go.Shelf
attribute [local go_sem] Oper.semAt_some
set_option linter.unusedVariables false
set_option linter.unusedSimpArgs false

/-- The indices and elements from the k-th down. -/
def backL (zs : List Int) : Nat → List (Nat × Int)
  | 0 => []
  | k + 1 => (k, zs.getD k 0) :: backL zs k

/-- The closure's box holds the slice, and the slice these integers. -/
def BackC (Bx : Nat) (a : Option Addr) (n cap : Nat) (zs : List Int) (W : World) : Prop := W.cell? ⟨Bx, 0, none⟩ = some (.slice a n cap) ∧ IntsAt W a n zs
def BackR (Bx : Nat) (a : Option Addr) : BSet := fun k => k = Bx ∨ ∃ ad, a = some ad ∧ k = ad.block
theorem BackC.round {Bx : Nat} {a : Option Addr} {n cap : Nat} {zs : List Int} {O : BSet} {W W' : World} (h : BackC Bx a n cap zs W) (hs : RdStep (fun k => BackR Bx a k ∨ O k) W W') : BackC Bx a n cap zs W' := by
  obtain ⟨h1, g1, g2, g3, g4⟩ := h
  refine ⟨hs.cell h1 (.inl (.inl rfl)), g1, g2, g3, ?_⟩
  rcases g4 with g4 | ⟨b, off, rfl, hc⟩
  · exact .inl g4
  · exact .inr ⟨b, off, rfl, fun j hj => hs.cell (hc j hj) (.inl (.inr ⟨_, rfl, rfl⟩))⟩

set_option maxRecDepth 100000 in
set_option maxHeartbeats 2000000 in
theorem back_iter (Bx : Nat) (a : Option Addr) (n cap : Nat) (zs : List Int) :
    IterOf Try.prog 37 #[.pointer (some ⟨Bx, 0, none⟩)] (BackR Bx a) (BackC Bx a n cap zs) (backL zs n) (fun (x : Nat × Int) (_ : Unit) => #[.int .i64 x.1, .int .i64 x.2]) (fun _ _ _ _ => True) := by
  intro l J Jx sJ sJx hY0 W hC h0
  have hY := Lib.hid hY0
  clear hY0
  have hn := hC.2.2.1
  refine (callsIn_wide (n := 0)).1 ?_
  refine callsIn_of_wp Try.func37 rfl trivial ?_ rfl
  simp only [Try.ntmps37, List.size_toArray, List.length_cons, List.length_nil, Nat.reduceAdd, Nat.reduceSub, Array.replicate_succ, Array.replicate_zero, List.push_toArray, List.append_toArray, List.nil_append, List.cons_append]
  have c1 := hC.1
  gi_wp2
  gi_loopw [3] (fun i wr => ∃ (k : Nat) (pre : List (Nat × Int)), k ≤ n ∧ i = .int .i64 ((k : Int) - 1) ∧ backL zs n = pre ++ backL zs k ∧ J pre (fun _ => False) wr ∧ BackC Bx a n cap zs wr)
    (fun i _ => (intOf i + 1).toNat)
  case atStart => exact ⟨n, [], Nat.le_refl _, rfl, rfl, h0, hC⟩
  case round =>
    obtain ⟨k, pre, hk, rfl, hx, hj, hc⟩ := hrel
    cases k with
    | zero =>
      have e : backL zs n = pre := by rw [hx]; simp [backL]
      rw [← e] at hj
      clear hx e hY
      gi_wp2
      go_end0
      exact ⟨⟨_, rfl⟩, .inl ⟨_, hj⟩⟩
    | succ m =>
      have e : ((m + 1 : Nat) : Int) - 1 = (m : Int) := by omega
      rw [e]
      clear e
      obtain ⟨fn, tmps, assign, body, hy, hR⟩ := yield_any 0 (hY.out pre (m, zs.getD m 0) () (backL zs m) _ wr hx hj trivial)
      dsimp only at hy
      have HC := Lib.hid hc
      have HX := Lib.hid (show backL zs n = (pre ++ [(m, zs.getD m 0)]) ++ backL zs m by rw [hx]; simp [backL])
      obtain ⟨b1, g1, g2, g3, g4⟩ := hc
      rcases g4 with g4 | ⟨b, off, rfl, hcell⟩
      · omega
      have b2 := hcell m (by omega)
      clear hcell g1 g3 hx hY hj c1
      generalize zs.getD m 0 = x at *
      gi_wp2_with fail
      refine ⟨rfl, hR.mono ?_⟩
      rintro e W3 ⟨hrd, (⟨rfl, hJ3⟩ | ⟨rfl, hJx3⟩)⟩
      · have hc3 := Lib.hid (HC.out.round hrd)
        clear hrd
        gi_wp2
        go_roundw
        case rel => exact ⟨m, pre ++ [(m, x)], by omega, by go_num, HX.out, hJ3, hc3.out⟩
        case measure => (simp [intOf]; try omega)
      · clear hrd
        gi_wp2
        refine bodyPost_ret (results_none rfl _ _ _) rfl ?_
        exact ⟨⟨_, rfl⟩, .inr ⟨_, _, hJx3⟩⟩
end Go.Proofs.Ytieajkpjkhdjeaa
