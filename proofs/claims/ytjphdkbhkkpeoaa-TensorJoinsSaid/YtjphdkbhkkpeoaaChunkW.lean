/-
  slices.Chunk over a slice of numbers: the contract of its closure, where the length is a multiple.
-/
import Derived.Test.YtjphdkbhkkpeoaaHas
import Derived.Test.YtjphdkbhkkpeoaaOwn
import Derived.RangeFuncCalls
import Derived.Shelf.RegionOpen
import Derived.OwnWalkIn
import Derived.TacticsInMore
import Derived.LoopNIn
import Derived.LoopIn
import Derived.BigQuiet
namespace Go.Proofs.Ytjphdkbhkkpeoaa
open Go.RowKit Go.Shelf
attribute [local go_sem] Oper.semAt_some
set_option linter.unusedVariables false
set_option linter.unusedSimpArgs false

/-- The r numbers from j on. -/
def upL : Nat → Nat → List Nat
  | _, 0 => []
  | j, r + 1 => j :: upL (j + 1) r

set_option maxHeartbeats 400000 in
theorem chunk_any (a : Option Addr) (len cap n : Nat) (hn : 1 ≤ n) (w : World) :
    Calls Try.prog 60 #[.slice a len cap, .int .i64 n] w fun e w' => e = .returned (.func (.func 70) #[] #[.pointer (some ⟨w.heap.size, 0, none⟩), .pointer (some ⟨w.heap.size + 1, 0, none⟩)]) ∧ (w.alloc (.cells #[.slice a len cap] 24)).alloc (.cells #[.int .i64 n] 3) = w' := by
  have hmf : ∀ (fn : Fn) (first cap : Array Value) (w : World), (Instr.makeFunc fn first cap).run Try.prog w = .ok (.func fn first cap) w := fun _ _ _ _ => rfl
  have hn1 : ¬ (n : Int) < 1 := by omega
  have hn2 : decide ((n : Int) < 1) = false := decide_eq_false hn1
  go_enter Try.func60, Try.ntmps60
  go_wp2_with fail
  go_ret
  exact ⟨rfl, rfl⟩

/-- The closure's boxes hold the slice and the step. -/
def ChunkC (Bs Bn b off L cap n : Nat) (W : World) : Prop := W.cell? ⟨Bs, 0, none⟩ = some (.slice (some ⟨b, off, none⟩) L cap) ∧ W.cell? ⟨Bn, 0, none⟩ = some (.int .i64 n)
def ChunkR (Bs Bn : Nat) : BSet := fun k => k = Bs ∨ k = Bn
theorem ChunkC.round {Bs Bn b off L cap n : Nat} {O : BSet} {W W' : World} (h : ChunkC Bs Bn b off L cap n W) (hs : RdStep (fun k => ChunkR Bs Bn k ∨ O k) W W') : ChunkC Bs Bn b off L cap n W' :=
  ⟨hs.cell h.1 (.inl (.inl rfl)), hs.cell h.2 (.inl (.inr rfl))⟩
/-- The j-th piece. -/
def pieceV (b off n : Nat) (j : Nat) : Value := .slice (some ⟨b, off + j * n, none⟩) n n

set_option maxRecDepth 100000 in
set_option maxHeartbeats 2000000 in
theorem chunk_iter (Bs Bn b off cap n M L : Nat) (hn : 1 ≤ n) (hL : L = M * n) (hc1 : L ≤ cap) (hc2 : cap ≤ 9223372036854775807) (hL6 : L ≤ 1000000) :
    IterOf Try.prog 70 #[.pointer (some ⟨Bs, 0, none⟩), .pointer (some ⟨Bn, 0, none⟩)] (ChunkR Bs Bn) (ChunkC Bs Bn b off L cap n) (upL 0 M) (fun (j : Nat) (_ : Unit) => #[pieceV b off n j]) (fun _ _ _ _ => True) := by
  intro l J Jx sJ sJx hY0 W hC h0
  have hY := Lib.hid hY0
  clear hY0
  have HL := Lib.hid hL
  clear hL
  refine (callsIn_wide (n := 0)).1 ?_
  refine callsIn_of_wp Try.func70 rfl trivial ?_ rfl
  simp only [Try.ntmps70, List.size_toArray, List.length_cons, List.length_nil, Nat.reduceAdd, Nat.reduceSub, Array.replicate_succ, Array.replicate_zero, List.push_toArray, List.append_toArray, List.nil_append, List.cons_append]
  gi_wp2
  gi_loopw [4] (fun i wr => ∃ (r j p : Nat) (pre : List Nat), i = .int .i64 p ∧ p + r * n = L ∧ Hid (p = j * n) ∧ Hid (upL 0 M = pre ++ upL j r) ∧ J pre (fun _ => False) wr ∧ ChunkC Bs Bn b off L cap n wr)
    (fun i _ => L - (intOf i).toNat)
  case atStart => exact ⟨M, 0, 0, [], rfl, by rw [HL.out]; omega, Lib.hid (by omega), Lib.hid rfl, h0, hC⟩
  case round =>
    obtain ⟨r, j, p, pre, rfl, hp, hpj, hx, hj, hc⟩ := hrel
    obtain ⟨c1, c2⟩ := hc
    cases r with
    | zero =>
      have e : upL 0 M = pre := by rw [hx.out]; simp [upL]
      rw [← e] at hj
      have hpL : ¬ (p : Int) < (L : Int) := by omega
      clear e hY hx
      gi_wp2
      go_end0
      exact ⟨⟨_, rfl⟩, .inl ⟨_, hj⟩⟩
    | succ r =>
      have hpn : p + n ≤ L := by
        rw [Nat.succ_mul] at hp
        have : 0 ≤ r * n := Nat.zero_le _
        omega
      have hp2 : (p + n) + r * n = L := by rw [Nat.succ_mul] at hp; omega
      have hlt : (p : Int) < (L : Int) := by omega
      have HP := Lib.hid hp2
      clear hp hp2
      gi_wp2_with fail
      have hmin : min (n : Int) ((L - p : Nat) : Int) = n := by omega
      have hmin2 : min (n : Int) ((L : Int) - p) = n := by omega
      refine region_cut2 (ι := Nat) (fun _ => True) (fun _ a => ((((((a.put (some 13) (.int .i64 n)).put (some 14) (.slice (some ⟨b, off, none⟩) L cap)).put (some 15) (.int .i64 p)).put (some 16) (.slice (some ⟨b, off + p, none⟩) (L - p) (cap - p))).put (some 17) (.int .i64 (L - p : Nat))).put (some 18) (.int .i64 n)).put (some 5) (.int .i64 n))
        (fun q => wr.drewN q) ?_ ?_
      · refine wpIn_wide.2 ?_
        go_quiet (fail)
        exact ⟨nq, trivial, rfl, rfl, rfl⟩
      intro q htriv
      clear htriv
      have bq : Below wr.heap.size wr (wr.drewN q) := below_drewN' (Below.refl _ _) q
      obtain ⟨W2, hW2⟩ : ∃ W2, wr.drewN q = W2 := ⟨_, rfl⟩
      have hj2 : J pre (fun _ => False) W2 := by rw [← hW2]; exact sJ _ _ _ _ _ hj (ItStep.of_below bq)
      have d1 : W2.cell? ⟨Bs, 0, none⟩ = some (.slice (some ⟨b, off, none⟩) L cap) := by rw [← hW2]; exact c1
      have d2 : W2.cell? ⟨Bn, 0, none⟩ = some (.int .i64 n) := by rw [← hW2]; exact c2
      have hc2' := Lib.hid (show ChunkC Bs Bn b off L cap n W2 from ⟨d1, d2⟩)
      obtain ⟨fn, tmps, assign, body, hy, hR⟩ := yield_any 0 (hY.out pre j () (upL (j + 1) r) _ W2 hx.out hj2 trivial)
      have epv : pieceV b off n j = .slice (some ⟨b, off + p, none⟩) n n := by rw [hpj.out]; rfl
      rw [epv] at hy
      have HX := Lib.hid (show upL 0 M = (pre ++ [j]) ++ upL (j + 1) r by rw [hx.out]; simp [upL])
      have hpj2 := Lib.hid (show p + n = (j + 1) * n by rw [hpj.out, Nat.succ_mul])
      rw [hW2]
      have hsub : p + n - p = n := by omega
      clear hj c1 c2 hx hY hmin hmin2 bq hW2 hpj epv
      rename_i K1 a1 K2 a2
      refine a2 _ _ ?_
      simp [Act.put]
      gi_wp2_with fail
      refine ⟨rfl, hR.mono ?_⟩
      rintro e W3 ⟨hrd, (⟨rfl, hJ3⟩ | ⟨rfl, hJx3⟩)⟩
      · have hc3 := Lib.hid (hc2'.out.round hrd)
        obtain ⟨x1, x2⟩ := hc3.out
        clear hrd
        gi_wp2
        go_roundw
        case rel => exact ⟨r, j + 1, p + n, pre ++ [j], by go_num, HP.out, hpj2, HX, hJ3, hc3.out⟩
        case measure => (simp [intOf]; try omega)
      · clear hrd
        gi_wp2
        refine bodyPost_ret (results_none rfl _ _ _) rfl ?_
        exact ⟨⟨_, rfl⟩, .inr ⟨_, _, hJx3⟩⟩
end Go.Proofs.Ytjphdkbhkkpeoaa
