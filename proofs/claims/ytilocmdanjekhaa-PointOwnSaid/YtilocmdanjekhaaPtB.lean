/-
  Contracts over lists of tensors: small, right.
-/
import Derived.Test.YtilocmdanjekhaaPtA
import Derived.Deep.RegionHeld3
import Derived.Deep.DeepCutAuto
import Derived.Deep.CutBlock
namespace Go.Proofs.Ytilocmdanjekhaa
open Go.RowKit
set_option linter.unusedVariables false
set_option linter.unusedSimpArgs false

/-- What tensors weigh: each one, its sides, its cells. -/
def wts (ts : List TV) : Nat := (ts.map fun t => 1 + t.sl + t.cl).sum
theorem wts_take {ts : List TV} {k : Nat} {t : TV} (h : ts[k]? = some t) : wts (ts.take (k + 1)) = wts (ts.take k) + (1 + t.sl + t.cl) := by
  unfold wts; rw [List.take_add_one, h]; simp
theorem wts_part (ts : List TV) (k : Nat) : wts (ts.take k) ≤ wts ts := by
  have h : wts (ts.take k ++ ts.drop k) = wts (ts.take k) + wts (ts.drop k) := by unfold wts; rw [List.map_append, List.sum_append]
  rw [List.take_append_drop] at h
  omega
theorem wts_mem {ts : List TV} {t : TV} (h : t ∈ ts) : 1 + t.sl + t.cl ≤ wts ts := by
  unfold wts
  induction ts with
  | nil => cases h
  | cons x r ih =>
    rw [List.map_cons, List.sum_cons]
    rcases List.mem_cons.1 h with rfl | h
    · omega
    · have := ih h; omega
theorem wts_len (ts : List TV) : ts.length ≤ wts ts := by
  induction ts with
  | nil => simp [wts]
  | cons x r ih => unfold wts at ih ⊢; rw [List.map_cons, List.sum_cons, List.length_cons]; omega
/-- May tensors be gone through? -/
def smallG (ts : List TV) : Bool := decide (wts ts ≤ 800)

set_option maxHeartbeats 1000000 in
theorem small_any (a : Option Addr) (len cap : Nat) (ts : List TV) (w : World) (h : GsAt w a len ts) :
    Calls Try.prog 7 #[.slice a len cap] w fun e w' => e = .returned (.bool (smallG ts)) ∧ Below w.heap.size w w' := by
  have hl := h.2.1
  have hts := Lib.hid h.1
  have H := Lib.hid (fun w1 (hb : Below w.heap.size w w1) k (hk : k < len) => (h.kept hb).at hk)
  clear h
  go_enter Try.func7, Try.ntmps7
  go_wp2_with fail
  go_loopw [3, 8] (fun n i wr => ∃ k S : Nat, k ≤ len ∧ i = .int .i64 k ∧ n = .int .i64 S ∧ S ≤ 800 ∧ Hid (S = wts (ts.take k)) ∧ Hid (Below w.heap.size w wr)) (fun _ i _ => len - (intOf i).toNat)
  case atStart => exact ⟨0, 0, Nat.zero_le _, rfl, rfl, by omega, Lib.hid (by simp [wts]), Lib.hid (Below.refl _ _)⟩
  case round =>
    obtain ⟨k, S, hk, rfl, rfl, hS, hsum, hbr⟩ := hrel
    by_cases hlt : k < len
    · obtain ⟨t, b, off, ht, rfl, c0, c1, hAt⟩ := H.out wr hbr.out k hlt
      obtain ⟨wB, hwB, J, z, n1⟩ := grid_box wr (.slice t.sa t.sl t.sc) (.slice t.ca t.cl t.cc)
      obtain ⟨j0, j1, -, -⟩ := J.out.see
      obtain ⟨x, hx⟩ : ∃ x, t.sl = x := ⟨_, rfl⟩
      obtain ⟨y, hy⟩ : ∃ y, t.cl = y := ⟨_, rfl⟩
      have l1 := hAt.2.2.1
      have l2 := hAt.2.2.2
      have st := Lib.hid (wts_take ht)
      rw [hx] at c0 j0 l1 st hwB
      rw [hy] at c1 j1 l2 st hwB
      have hb2 := Lib.hid (hbr.out.trans (z.out.mono hbr.out.size))
      clear hx hy hAt
      by_cases q : (S : Int) + (1 + (x : Int) + (y : Int)) ≤ 800
      · have st' := Lib.hid (show S + (1 + x + y) = wts (ts.take (k + 1)) by rw [st.out, ← hsum.out])
        have q' : S + (1 + x + y) ≤ 800 := by omega
        go_upto_region 5 with (fail)
        rw [hwB.out]
        go_wp2_with fail
        go_roundw
        case rel => exact ⟨k + 1, S + (1 + x + y), by omega, by go_num, by go_num, q', st', hb2⟩
        case measure => (simp [intOf]; try omega)
      · have E : Hid (false = smallG ts) := Lib.hid (by
          have := wts_part ts (k + 1)
          rw [st.out, ← hsum.out] at this
          unfold smallG
          rw [decide_eq_false (by omega)])
        go_upto_region 5 with (fail)
        rw [hwB.out]
        go_wp2_with fail
        go_ret
        exact ⟨ret_bool E.out, hb2.out⟩
    · obtain rfl : k = len := by omega
      have E : Hid (true = smallG ts) := Lib.hid (by
        have := hsum.out
        rw [List.take_of_length_le (by rw [hts.out]; omega)] at this
        unfold smallG
        rw [decide_eq_true (by omega)])
      go_wp2_with fail
      go_ret
      exact ⟨ret_bool E.out, hbr.out⟩

set_option maxHeartbeats 1000000 in
theorem rright_any (sa : Option Addr) (sl sc : Nat) (ss : List Int) (ca : Option Addr) (cl cc : Nat) (w : World) (h : IntsAt w sa sl ss) (hl : cl ≤ 9223372036854775807) :
    Calls Try.prog 15 #[.agg #[.slice sa sl sc, .slice ca cl cc]] w fun e w' => e = .returned (.bool (rightT ss cl)) ∧ Below w.heap.size w w' := by
  obtain ⟨wA, hwA, J1, z1, n1⟩ := grid_box w (.slice sa sl sc) (.slice ca cl cc)
  obtain ⟨j0, j1, -, -⟩ := J1.out.see
  have hd := fun n => (h.kept z1.out).kept (below_drewN' (Below.refl _ _) n)
  have C := fun n => flipW (refshape_any sa sl sc ss (wA.drewN n) (hd n))
  have D := fun hr n => flipW (refsize_any sa sl sc ss (wA.drewN n) (hd n) hr)
  clear h hd
  cases b : rightS ss
  · rw [b] at C
    have C1 := Lib.hid C
    have E := Lib.hid (rightT_no (n := cl) b)
    clear C b D
    go_enter Try.func15, Try.ntmps15
    go_upto_region 1 with (fail)
    rw [hwA.out]
    go_quiet ((go_at_call 31; exact Calls.quiet_of_same (C1.out _)))
    go_wp2_with fail
    go_ret
    exact ⟨ret_bool E.out, below_drewN' z1.out _⟩
  · rw [b] at C
    have C1 := Lib.hid C
    have D1 := D b
    have E1 := Lib.hid (fun h => rightT_yes (n := cl) b h)
    have E2 := Lib.hid (fun h => rightT_len (ss := ss) (n := cl) h)
    clear C b D
    obtain ⟨x, hx⟩ : ∃ x, prodI ss = x := ⟨_, rfl⟩
    rw [hx] at D1 E1 E2
    have D2 := Lib.hid D1
    clear hx D1
    have E : Hid (((cl : Int) == x) = rightT ss cl) := Lib.hid (by
      by_cases c : (cl : Int) = x
      · rw [← E1.out c]; simp [c]
      · rw [← E2.out c]; simp [c])
    clear E1 E2
    go_enter Try.func15, Try.ntmps15
    go_upto_region 1 with (fail)
    rw [hwA.out]
    go_quiet ((first | (go_at_call 31; exact Calls.quiet_of_same (C1.out _)) | (go_at_call 32; exact Calls.quiet_of_same (D2.out _))))
    go_wp2_with fail
    go_ret
    exact ⟨ret_bool E.out, below_drewN' z1.out _⟩
end Go.Proofs.Ytilocmdanjekhaa
