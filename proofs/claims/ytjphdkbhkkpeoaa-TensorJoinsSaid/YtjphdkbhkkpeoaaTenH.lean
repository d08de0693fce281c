/-
  Contracts of package tensor: Dot; of the statements' file: small, right; the fixed answer of the statements of layer 4.
-/
import Derived.Test.YtjphdkbhkkpeoaaTenG
namespace Go.Proofs.Ytjphdkbhkkpeoaa
open Go.RowKit
set_option linter.unusedVariables false
set_option linter.unusedSimpArgs false

theorem rightT_pos {ss : List Int} {n : Nat} (h : rightT ss n = true) : 0 < n := by
  obtain ⟨h1, h2⟩ := rightT_parts h
  have := prodI_pos (rightS_parts h1).2.2.1
  omega
theorem alikeT_parts {s1 s2 : List Int} {n1 n2 : Nat} (h : alikeT s1 n1 s2 n2 = true) : rightT s1 n1 = true ∧ rightT s2 n2 = true ∧ s1 = s2 ∧ n1 = n2 := by
  simp only [alikeT, Bool.and_eq_true] at h
  obtain ⟨⟨h1, h2⟩, h3⟩ := h
  have e := sameL_eq h3
  refine ⟨h1, h2, e, ?_⟩
  have x1 := (rightT_parts h1).2
  have x2 := (rightT_parts h2).2
  rw [← e] at x2
  omega

set_option maxHeartbeats 1000000 in
theorem tdot_any (sa : Option Addr) (sl sc : Nat) (ss : List Int) (ca : Option Addr) (cl cc : Nat) (cs : List Int) (sa2 : Option Addr) (sl2 sc2 : Nat) (ss2 : List Int) (ca2 : Option Addr) (cl2 cc2 : Nat) (ds : List Int) (w : World)
    (h : IntsAt w sa sl ss) (hc : IntsAt w ca cl cs) (h2 : IntsAt w sa2 sl2 ss2) (hd : IntsAt w ca2 cl2 ds) :
    Calls Try.prog 32 #[.agg #[.slice sa sl sc, .slice ca cl cc], .agg #[.slice sa2 sl2 sc2, .slice ca2 cl2 cc2]] w fun e w' =>
      e = .returned (.tuple #[.int .i64 (if alikeT ss cl ss2 cl2 = true then dotF cs ds else 0), .int .i64 (if alikeT ss cl ss2 cl2 = true then 0 else 20)]) ∧ Below w.heap.size w w' := by
  obtain ⟨wA, hwA, J1, z1, n1⟩ := grid_box w (.slice sa sl sc) (.slice ca cl cc)
  obtain ⟨wB, hwB, J2, z2, n2⟩ := grid_box wA (.slice sa2 sl2 sc2) (.slice ca2 cl2 cc2)
  rw [n1.out] at J2
  have z := Lib.hid (z1.out.trans (z2.out.mono z1.out.size))
  have J := Lib.hid (J1.out.kept z2.out)
  have C := alike_any sa sl sc ss ca cl cc sa2 sl2 sc2 ss2 ca2 cl2 cc2 wB (h.kept z.out) hc.2.1 (h2.kept z.out) hd.2.1
  have D := Lib.hid (fun w1 (hb : Below wB.heap.size wB w1) => dot_any ca ca2 cl cc cl2 cc2 cs ds w1 ((hc.kept z.out).kept hb) ((hd.kept z.out).kept hb))
  clear h hc h2 hd J1
  obtain ⟨j0, j1, -, -⟩ := J.out.see
  obtain ⟨i0, i1, -, -⟩ := J2.out.see
  cases b : alikeT ss cl ss2 cl2
  · rw [b] at C
    have C1 := Lib.hid C
    clear C b D
    go_enter Try.func32, Try.ntmps32
    go_upto_region 1 with (fail)
    rw [hwA.out, hwB.out]
    go_wp2_with fail
    refine C1.out.mono ?_
    rintro e w1 ⟨rfl, hb1⟩
    go_wp2_with fail
    go_ret2
    exact ⟨rfl, z.out.trans (hb1.mono z.out.size)⟩
  · rw [b] at C
    have C1 := Lib.hid C
    clear C b
    obtain ⟨x, hx⟩ : ∃ x, dotF cs ds = x := ⟨_, rfl⟩
    rw [hx] at D ⊢
    clear hx
    go_enter Try.func32, Try.ntmps32
    go_upto_region 1 with (fail)
    rw [hwA.out, hwB.out]
    go_wp2_with fail
    refine C1.out.mono ?_
    rintro e w1 ⟨rfl, hb1⟩
    obtain ⟨k0, k1, -, -⟩ := (J.out.kept hb1).see
    obtain ⟨l0, l1, -, -⟩ := (J2.out.kept hb1).see
    go_wp2_with fail
    refine (D.out _ hb1).mono ?_
    rintro e w2 ⟨rfl, n, rfl⟩
    go_wp2_with fail
    go_ret2
    exact ⟨rfl, z.out.trans ((below_drewN' hb1 n).mono z.out.size)⟩

/-- The statements look at tensors of at most 50 sides and 600 cells. -/
def smallT (sl cl : Nat) : Bool := decide (sl ≤ 50) && decide (cl ≤ 600)

set_option maxHeartbeats 1000000 in
theorem small_any (sa : Option Addr) (sl sc : Nat) (ca : Option Addr) (cl cc : Nat) (w : World) (h : sl ≤ 9223372036854775807) (hl : cl ≤ 9223372036854775807) :
    Calls Try.prog 8 #[.agg #[.slice sa sl sc, .slice ca cl cc]] w fun e w' => e = .returned (.bool (smallT sl cl)) ∧ Below w.heap.size w w' := by
  obtain ⟨wA, hwA, J1, z1, n1⟩ := grid_box w (.slice sa sl sc) (.slice ca cl cc)
  obtain ⟨j0, j1, -, -⟩ := J1.out.see
  by_cases c : sl ≤ 50
  · have E : Hid (decide ((cl : Int) ≤ 600) = smallT sl cl) := Lib.hid (by
      have e : decide ((cl : Int) ≤ 600) = decide (cl ≤ 600) := by apply decide_eq_decide.2; omega
      rw [e]; simp [smallT, c])
    go_enter Try.func8, Try.ntmps8
    go_upto_region 1 with (fail)
    rw [hwA.out]
    go_wp2_with fail
    go_ret
    exact ⟨ret_bool E.out, z1.out⟩
  · have E : Hid (false = smallT sl cl) := Lib.hid (by simp [smallT, c])
    go_enter Try.func8, Try.ntmps8
    go_upto_region 1 with (fail)
    rw [hwA.out]
    go_wp2_with fail
    go_ret
    exact ⟨ret_bool E.out, z1.out⟩

set_option maxHeartbeats 1000000 in
theorem refright_any (sa : Option Addr) (sl sc : Nat) (ss : List Int) (ca : Option Addr) (cl cc : Nat) (w : World) (h : IntsAt w sa sl ss) (hl : cl ≤ 9223372036854775807) :
    Calls Try.prog 14 #[.agg #[.slice sa sl sc, .slice ca cl cc]] w fun e w' => e = .returned (.bool (rightT ss cl)) ∧ Below w.heap.size w w' := by
  obtain ⟨wA, hwA, J1, z1, n1⟩ := grid_box w (.slice sa sl sc) (.slice ca cl cc)
  obtain ⟨j0, j1, -, -⟩ := J1.out.see
  have hd := fun n => (h.kept z1.out).kept (below_drewN' (Below.refl _ _) n)
  have C := fun n => flipW (refshape_any sa sl sc ss (wA.drewN n) (hd n))
  have D := fun hr n => flipW (refsize_any sa sl sc ss (wA.drewN n) (hd n) hr)
  clear h hd
  cases b : rightS ss
  · rw [b] at C
    have C1 := Lib.hid C
    have E := Lib.hid (rightT_no (n := cl) b)
    clear C b D
    go_enter Try.func14, Try.ntmps14
    go_upto_region 1 with (fail)
    rw [hwA.out]
    go_quiet ((go_at_call 16; exact Calls.quiet_of_same (C1.out _)))
    go_wp2_with fail
    go_ret
    exact ⟨ret_bool E.out, below_drewN' z1.out _⟩
  · rw [b] at C
    have C1 := Lib.hid C
    have D1 := D b
    have E1 := Lib.hid (fun h => rightT_yes (n := cl) b h)
    have E2 := Lib.hid (fun h => rightT_len (ss := ss) (n := cl) h)
    clear C b D
    obtain ⟨x, hx⟩ : ∃ x, prodI ss = x := ⟨_, rfl⟩
    rw [hx] at D1 E1 E2
    have D2 := Lib.hid D1
    clear hx D1
    have E : Hid (((cl : Int) == x) = rightT ss cl) := Lib.hid (by
      by_cases c : (cl : Int) = x
      · rw [← E1.out c]; simp [c]
      · rw [← E2.out c]; simp [c])
    clear E1 E2
    go_enter Try.func14, Try.ntmps14
    go_upto_region 1 with (fail)
    rw [hwA.out]
    go_quiet ((first | (go_at_call 16; exact Calls.quiet_of_same (C1.out _)) | (go_at_call 17; exact Calls.quiet_of_same (D2.out _))))
    go_wp2_with fail
    go_ret
    exact ⟨ret_bool E.out, below_drewN' z1.out _⟩
end Go.Proofs.Ytjphdkbhkkpeoaa
