/-
  The walk of the statement ShapeCuts.
-/
import Derived.Test.YtieajkpjkhdjeaaAwake03
import Derived.StillTailTactics
import Derived.IntWalk
namespace Go.Proofs.Ytieajkpjkhdjeaa
open Go.RowKit
set_option linter.unusedVariables false
set_option linter.unusedSimpArgs false

/-- A block holds two shapes and three numbers. -/
def JAt (w : World) (B : Nat) (s t : Value) (k f g : Int) : Prop :=
  w.cell? ⟨B, 0, none⟩ = some s ∧ w.cell? ⟨B, 1, none⟩ = some t ∧ w.cell? ⟨B, 2, none⟩ = some (.int .i64 k) ∧ w.cell? ⟨B, 3, none⟩ = some (.int .i64 f) ∧ w.cell? ⟨B, 4, none⟩ = some (.int .i64 g)
theorem JAt.kept {w w' : World} {B : Nat} {s t : Value} {k f g : Int} (h : JAt w B s t k f g) (hb : Below w.heap.size w w') : JAt w' B s t k f g :=
  ⟨cell_later hb h.1, cell_later hb h.2.1, cell_later hb h.2.2.1, cell_later hb h.2.2.2.1, cell_later hb h.2.2.2.2⟩
theorem JAt.made (w : World) (s t : Value) (k f g : Int) (T : TypeId) : JAt (w.alloc (.cells #[s, t, .int .i64 k, .int .i64 f, .int .i64 g] T)) w.heap.size s t k f g := by
  refine ⟨?_, ?_, ?_, ?_, ?_⟩ <;> (rw [World.cell?_alloc_at _ _ _ _ rfl]; rfl)


set_option maxHeartbeats 4000000 in
theorem cuts_long (a : Option Addr) (len cap : Nat) (zs : List Int) (t : Value) (side fr to : Int) (w : World) (h : IntsAt w a len zs) (hlen : 50 < len) :
    Calls Try.prog 7 #[.agg #[.slice a len cap, t, .int .i64 side, .int .i64 fr, .int .i64 to]] w fun e w' => e = .returned (.bool true) ∧ Below w.heap.size w w' := by
  clear h
  have J0 := JAt.made w (.slice a len cap) t side fr to 39
  have z0' : Below w.heap.size w (w.alloc (.cells #[.slice a len cap, t, .int .i64 side, .int .i64 fr, .int .i64 to] 39)) := (Below.refl _ _).alloc (Nat.le_refl _) _
  obtain ⟨wB, hwB⟩ : ∃ wB, w.alloc (.cells #[.slice a len cap, t, .int .i64 side, .int .i64 fr, .int .i64 to] 39) = wB := ⟨_, rfl⟩
  rw [hwB] at J0 z0'
  have J := Lib.hid J0
  have z0 := Lib.hid z0'
  have hwB' := Lib.hid hwB
  clear J0 z0' hwB
  go_enter Try.func7, Try.ntmps7
  go_wp2_with fail
  rw [hwB'.out]
  refine (awake03_any _).mono ?_
  rintro e w9 ⟨rfl, hb9⟩
  go_wp2_with fail
  go_ret
  exact ⟨rfl, z0.out.trans (hb9.mono z0.out.size)⟩

set_option maxHeartbeats 4000000 in
theorem cuts_wrong (a : Option Addr) (len cap : Nat) (zs : List Int) (t : Value) (side fr to : Int) (w : World) (h : IntsAt w a len zs) (hlen : ¬ 50 < len) (hr : rightS zs = false) :
    Calls Try.prog 7 #[.agg #[.slice a len cap, t, .int .i64 side, .int .i64 fr, .int .i64 to]] w fun e w' => e = .returned (.bool true) ∧ Below w.heap.size w w' := by
  have J0 := JAt.made w (.slice a len cap) t side fr to 39
  have z0' : Below w.heap.size w (w.alloc (.cells #[.slice a len cap, t, .int .i64 side, .int .i64 fr, .int .i64 to] 39)) := (Below.refl _ _).alloc (Nat.le_refl _) _
  obtain ⟨wB, hwB⟩ : ∃ wB, w.alloc (.cells #[.slice a len cap, t, .int .i64 side, .int .i64 fr, .int .i64 to] 39) = wB := ⟨_, rfl⟩
  rw [hwB] at J0 z0'
  have J := Lib.hid J0
  have z0 := Lib.hid z0'
  have hwB' := Lib.hid hwB
  clear J0 z0' hwB
  have C := Lib.hid (cut_wrong a len cap zs side fr to wB (h.kept z0.out) hr)
  have D := Lib.hid (fun w1 (hb : Below wB.heap.size wB w1) => refshape_any a len cap zs w1 ((h.kept z0.out).kept hb))
  rw [hr] at D
  have hlr := (show len ≤ 50 by omega)
  clear h hr
  go_enter Try.func7, Try.ntmps7
  go_wp2_with fail
  rw [hwB'.out]
  refine C.out.mono ?_
  rintro e w1 ⟨rfl, hb1⟩
  obtain ⟨j0, j1, j2, j3, j4⟩ := J.out.kept hb1
  go_wp2_with fail
  refine (D.out w1 hb1).mono ?_
  rintro e w' ⟨rfl, rfl⟩
  go_wp2_with fail
  refine (awake03_any _).mono ?_
  rintro e w9 ⟨rfl, hb9⟩
  go_wp2_with fail
  go_ret
  exact ⟨rfl, z0.out.trans ((hb1.trans (hb9.mono hb1.size)).mono z0.out.size)⟩

set_option maxHeartbeats 4000000 in
theorem cuts_low (a : Option Addr) (len cap : Nat) (zs : List Int) (t : Value) (side fr to : Int) (w : World) (h : IntsAt w a len zs) (hlen : ¬ 50 < len) (hr : rightS zs = true) (hs : side < 0) :
    Calls Try.prog 7 #[.agg #[.slice a len cap, t, .int .i64 side, .int .i64 fr, .int .i64 to]] w fun e w' => e = .returned (.bool true) ∧ Below w.heap.size w w' := by
  have J0 := JAt.made w (.slice a len cap) t side fr to 39
  have z0' : Below w.heap.size w (w.alloc (.cells #[.slice a len cap, t, .int .i64 side, .int .i64 fr, .int .i64 to] 39)) := (Below.refl _ _).alloc (Nat.le_refl _) _
  obtain ⟨wB, hwB⟩ : ∃ wB, w.alloc (.cells #[.slice a len cap, t, .int .i64 side, .int .i64 fr, .int .i64 to] 39) = wB := ⟨_, rfl⟩
  rw [hwB] at J0 z0'
  have J := Lib.hid J0
  have z0 := Lib.hid z0'
  have hwB' := Lib.hid hwB
  clear J0 z0' hwB
  have C := Lib.hid (cut_side a len cap zs side fr to wB (h.kept z0.out) hr (hasD_low (len := len) (side := side) (by omega)).symm)
  have D := Lib.hid (fun w1 (hb : Below wB.heap.size wB w1) => refshape_any a len cap zs w1 ((h.kept z0.out).kept hb))
  rw [hr] at D
  have d1 : decide (side < 0) = true := by simpa using hs
  have hlr := (show len ≤ 50 by omega)
  clear h hr
  go_enter Try.func7, Try.ntmps7
  go_wp2_with fail
  rw [hwB'.out]
  refine C.out.mono ?_
  rintro e w1 ⟨rfl, hb1⟩
  obtain ⟨j0, j1, j2, j3, j4⟩ := J.out.kept hb1
  go_wp2_with fail
  refine (D.out w1 hb1).mono ?_
  rintro e w' ⟨rfl, rfl⟩
  go_wp2_with fail
  go_quiet (fail)
  go_wp2_with fail
  refine (awake03_any _).mono ?_
  rintro e w9 ⟨rfl, hb9⟩
  go_wp2_with fail
  go_ret
  exact ⟨rfl, z0.out.trans ((hb1.trans ((below_drewN' (Below.refl _ _) _).trans hb9 |>.mono hb1.size)).mono z0.out.size)⟩

set_option maxHeartbeats 4000000 in
theorem cuts_high (a : Option Addr) (len cap : Nat) (zs : List Int) (t : Value) (side fr to : Int) (w : World) (h : IntsAt w a len zs) (hlen : ¬ 50 < len) (hr : rightS zs = true) (hs' : ¬ side < 0) (hs : len ≤ side) :
    Calls Try.prog 7 #[.agg #[.slice a len cap, t, .int .i64 side, .int .i64 fr, .int .i64 to]] w fun e w' => e = .returned (.bool true) ∧ Below w.heap.size w w' := by
  have J0 := JAt.made w (.slice a len cap) t side fr to 39
  have z0' : Below w.heap.size w (w.alloc (.cells #[.slice a len cap, t, .int .i64 side, .int .i64 fr, .int .i64 to] 39)) := (Below.refl _ _).alloc (Nat.le_refl _) _
  obtain ⟨wB, hwB⟩ : ∃ wB, w.alloc (.cells #[.slice a len cap, t, .int .i64 side, .int .i64 fr, .int .i64 to] 39) = wB := ⟨_, rfl⟩
  rw [hwB] at J0 z0'
  have J := Lib.hid J0
  have z0 := Lib.hid z0'
  have hwB' := Lib.hid hwB
  clear J0 z0' hwB
  have C := Lib.hid (cut_side a len cap zs side fr to wB (h.kept z0.out) hr (hasD_high (len := len) (side := side) (by omega)).symm)
  have D := Lib.hid (fun w1 (hb : Below wB.heap.size wB w1) => refshape_any a len cap zs w1 ((h.kept z0.out).kept hb))
  rw [hr] at D
  have d1 : decide (side < 0) = false := by simpa using hs'
  have d2 : decide ((len : Int) ≤ side) = true := by simpa using hs
  have hlr := (show len ≤ 50 by omega)
  clear h hr
  go_enter Try.func7, Try.ntmps7
  go_wp2_with fail
  rw [hwB'.out]
  refine C.out.mono ?_
  rintro e w1 ⟨rfl, hb1⟩
  obtain ⟨j0, j1, j2, j3, j4⟩ := J.out.kept hb1
  go_wp2_with fail
  refine (D.out w1 hb1).mono ?_
  rintro e w' ⟨rfl, rfl⟩
  go_wp2_with fail
  go_quiet (fail)
  go_wp2_with fail
  refine (awake03_any _).mono ?_
  rintro e w9 ⟨rfl, hb9⟩
  go_wp2_with fail
  go_ret
  exact ⟨rfl, z0.out.trans ((hb1.trans ((below_drewN' (Below.refl _ _) _).trans hb9 |>.mono hb1.size)).mono z0.out.size)⟩

set_option maxHeartbeats 4000000 in
theorem cuts_neg (a : Option Addr) (len cap : Nat) (zs : List Int) (t : Value) (k : Nat) (fr to : Int) (w : World) (h : IntsAt w a len zs) (hlen : ¬ 50 < len) (hr : rightS zs = true) (hk : k < len) (hf : fr < 0) :
    Calls Try.prog 7 #[.agg #[.slice a len cap, t, .int .i64 k, .int .i64 fr, .int .i64 to]] w fun e w' => e = .returned (.bool true) ∧ Below w.heap.size w w' := by
  have J0 := JAt.made w (.slice a len cap) t k fr to 39
  have z0' : Below w.heap.size w (w.alloc (.cells #[.slice a len cap, t, .int .i64 k, .int .i64 fr, .int .i64 to] 39)) := (Below.refl _ _).alloc (Nat.le_refl _) _
  obtain ⟨wB, hwB⟩ : ∃ wB, w.alloc (.cells #[.slice a len cap, t, .int .i64 k, .int .i64 fr, .int .i64 to] 39) = wB := ⟨_, rfl⟩
  rw [hwB] at J0 z0'
  have J := Lib.hid J0
  have z0 := Lib.hid z0'
  have hwB' := Lib.hid hwB
  clear J0 z0' hwB
  have C := Lib.hid (cut_part a len cap zs k fr to wB (h.kept z0.out) hr hk (by omega))
  have D := Lib.hid (fun w1 (hb : Below wB.heap.size wB w1) => refshape_any a len cap zs w1 ((h.kept z0.out).kept hb))
  rw [hr] at D
  have d0 : decide ((k : Int) < 0) = false := decide_eq_false (by omega)
  have d1 : decide ((len : Int) ≤ k) = false := decide_eq_false (by omega)
  have d1' : decide (len ≤ k) = false := decide_eq_false (by omega)
  have d2 : decide (fr < 0) = true := by simpa using hf
  have hlr := (show len ≤ 50 by omega)
  clear h hr
  go_enter Try.func7, Try.ntmps7
  go_wp2_with fail
  rw [hwB'.out]
  refine C.out.mono ?_
  rintro e w1 ⟨rfl, hb1⟩
  obtain ⟨j0, j1, j2, j3, j4⟩ := J.out.kept hb1
  go_wp2_with fail
  refine (D.out w1 hb1).mono ?_
  rintro e w' ⟨rfl, rfl⟩
  go_wp2_with fail
  go_quiet (fail)
  go_wp2_with fail
  refine (awake03_any _).mono ?_
  rintro e w9 ⟨rfl, hb9⟩
  go_wp2_with fail
  go_ret
  exact ⟨rfl, z0.out.trans ((hb1.trans ((below_drewN' (Below.refl _ _) _).trans hb9 |>.mono hb1.size)).mono z0.out.size)⟩

set_option maxHeartbeats 4000000 in
theorem cuts_past (a : Option Addr) (len cap : Nat) (zs : List Int) (t : Value) (k : Nat) (fr to : Int) (w : World) (h : IntsAt w a len zs) (hlen : ¬ 50 < len) (hr : rightS zs = true) (hk : k < len) (hf : ¬ fr < 0) (ht : zs.getD k 0 < to) :
    Calls Try.prog 7 #[.agg #[.slice a len cap, t, .int .i64 k, .int .i64 fr, .int .i64 to]] w fun e w' => e = .returned (.bool true) ∧ Below w.heap.size w w' := by
  have J0 := JAt.made w (.slice a len cap) t k fr to 39
  have z0' : Below w.heap.size w (w.alloc (.cells #[.slice a len cap, t, .int .i64 k, .int .i64 fr, .int .i64 to] 39)) := (Below.refl _ _).alloc (Nat.le_refl _) _
  obtain ⟨wB, hwB⟩ : ∃ wB, w.alloc (.cells #[.slice a len cap, t, .int .i64 k, .int .i64 fr, .int .i64 to] 39) = wB := ⟨_, rfl⟩
  rw [hwB] at J0 z0'
  have J := Lib.hid J0
  have z0 := Lib.hid z0'
  have hwB' := Lib.hid hwB
  clear J0 z0' hwB
  have C := Lib.hid (cut_part a len cap zs k fr to wB (h.kept z0.out) hr hk (by omega))
  have D := Lib.hid (fun w1 (hb : Below wB.heap.size wB w1) => refshape_any a len cap zs w1 ((h.kept z0.out).kept hb))
  rw [hr] at D
  obtain ⟨b, off, rfl, hc⟩ : ∃ b off, a = some ⟨b, off, none⟩ ∧ wB.cell? ⟨b, off + k, none⟩ = some (.int .i64 (zs.getD k 0)) := by
    rcases (h.kept z0.out).2.2.2 with h4 | ⟨b, off, ha, hc⟩
    · omega
    · exact ⟨b, off, ha, hc k hk⟩
  have hcell := Lib.hid (fun w1 (hb : Below wB.heap.size wB w1) => cell_later hb hc)
  clear hc
  generalize zs.getD k 0 = x at *
  have d0 : decide ((k : Int) < 0) = false := decide_eq_false (by omega)
  have d1 : decide ((len : Int) ≤ k) = false := decide_eq_false (by omega)
  have d1' : decide (len ≤ k) = false := decide_eq_false (by omega)
  have d2 : decide (fr < 0) = false := by simpa using hf
  have d3 : decide (x < to) = true := by simpa using ht
  have hlr := (show len ≤ 50 by omega)
  clear h hr
  go_enter Try.func7, Try.ntmps7
  go_wp2_with fail
  rw [hwB'.out]
  refine C.out.mono ?_
  rintro e w1 ⟨rfl, hb1⟩
  obtain ⟨j0, j1, j2, j3, j4⟩ := J.out.kept hb1
  go_wp2_with fail
  refine (D.out w1 hb1).mono ?_
  rintro e w' ⟨rfl, rfl⟩
  have hc1 := hcell.out w1 hb1
  go_wp2_with fail
  go_quiet (fail)
  go_wp2_with fail
  refine (awake03_any _).mono ?_
  rintro e w9 ⟨rfl, hb9⟩
  go_wp2_with fail
  go_ret
  exact ⟨rfl, z0.out.trans ((hb1.trans ((below_drewN' (Below.refl _ _) _).trans hb9 |>.mono hb1.size)).mono z0.out.size)⟩

set_option maxHeartbeats 4000000 in
theorem cuts_empty (a : Option Addr) (len cap : Nat) (zs : List Int) (t : Value) (k : Nat) (fr to : Int) (w : World) (h : IntsAt w a len zs) (hlen : ¬ 50 < len) (hr : rightS zs = true) (hk : k < len) (hf : ¬ fr < 0) (ht : ¬ zs.getD k 0 < to) (he : to ≤ fr) :
    Calls Try.prog 7 #[.agg #[.slice a len cap, t, .int .i64 k, .int .i64 fr, .int .i64 to]] w fun e w' => e = .returned (.bool true) ∧ Below w.heap.size w w' := by
  have J0 := JAt.made w (.slice a len cap) t k fr to 39
  have z0' : Below w.heap.size w (w.alloc (.cells #[.slice a len cap, t, .int .i64 k, .int .i64 fr, .int .i64 to] 39)) := (Below.refl _ _).alloc (Nat.le_refl _) _
  obtain ⟨wB, hwB⟩ : ∃ wB, w.alloc (.cells #[.slice a len cap, t, .int .i64 k, .int .i64 fr, .int .i64 to] 39) = wB := ⟨_, rfl⟩
  rw [hwB] at J0 z0'
  have J := Lib.hid J0
  have z0 := Lib.hid z0'
  have hwB' := Lib.hid hwB
  clear J0 z0' hwB
  have C := Lib.hid (cut_part a len cap zs k fr to wB (h.kept z0.out) hr hk (by omega))
  have D := Lib.hid (fun w1 (hb : Below wB.heap.size wB w1) => refshape_any a len cap zs w1 ((h.kept z0.out).kept hb))
  rw [hr] at D
  obtain ⟨b, off, rfl, hc⟩ : ∃ b off, a = some ⟨b, off, none⟩ ∧ wB.cell? ⟨b, off + k, none⟩ = some (.int .i64 (zs.getD k 0)) := by
    rcases (h.kept z0.out).2.2.2 with h4 | ⟨b, off, ha, hc⟩
    · omega
    · exact ⟨b, off, ha, hc k hk⟩
  have hcell := Lib.hid (fun w1 (hb : Below wB.heap.size wB w1) => cell_later hb hc)
  clear hc
  generalize zs.getD k 0 = x at *
  have d0 : decide ((k : Int) < 0) = false := decide_eq_false (by omega)
  have d1 : decide ((len : Int) ≤ k) = false := decide_eq_false (by omega)
  have d1' : decide (len ≤ k) = false := decide_eq_false (by omega)
  have d2 : decide (fr < 0) = false := by simpa using hf
  have d3 : decide (x < to) = false := by simpa using ht
  have d4 : decide (to ≤ fr) = true := by simpa using he
  have hlr := (show len ≤ 50 by omega)
  clear h hr
  go_enter Try.func7, Try.ntmps7
  go_wp2_with fail
  rw [hwB'.out]
  refine C.out.mono ?_
  rintro e w1 ⟨rfl, hb1⟩
  obtain ⟨j0, j1, j2, j3, j4⟩ := J.out.kept hb1
  go_wp2_with fail
  refine (D.out w1 hb1).mono ?_
  rintro e w' ⟨rfl, rfl⟩
  have hc1 := hcell.out w1 hb1
  go_wp2_with fail
  go_quiet (fail)
  go_wp2_with fail
  refine (awake03_any _).mono ?_
  rintro e w9 ⟨rfl, hb9⟩
  go_wp2_with fail
  go_ret
  exact ⟨rfl, z0.out.trans ((hb1.trans ((below_drewN' (Below.refl _ _) _).trans hb9 |>.mono hb1.size)).mono z0.out.size)⟩

theorem map_at (l : List Int) (j : Nat) (h : j < l.length) : (l.map (Value.int .i64))[j]? = some (Value.int .i64 (l.getD j 0)) := by
  rw [List.getElem?_map, List.getElem?_eq_getElem h]; simp [List.getD, List.getElem?_eq_getElem h]
theorem set_self (zs : List Int) (k : Nat) (x : Int) (hk : k < zs.length) : (zs.set k x).getD k 0 = x := by simp [List.getD, hk]
theorem set_other (zs : List Int) (k j : Nat) (x : Int) (h : ¬ j = k) : (zs.set k x).getD j 0 = zs.getD j 0 := by simp [List.getD, List.getElem?_set, Ne.symm (show j ≠ k from h)]

set_option maxHeartbeats 4000000 in
theorem cuts_ok (a : Option Addr) (len cap : Nat) (zs : List Int) (t : Value) (k : Nat) (fr to : Int) (w : World) (h : IntsAt w a len zs) (hlen : ¬ 50 < len) (hr : rightS zs = true) (hk : k < len) (n1 : 0 ≤ fr) (n2 : to ≤ zs.getD k 0) (n3 : fr < to) :
    Calls Try.prog 7 #[.agg #[.slice a len cap, t, .int .i64 k, .int .i64 fr, .int .i64 to]] w fun e w' => e = .returned (.bool true) ∧ Below w.heap.size w w' := by
  have J0 := JAt.made w (.slice a len cap) t k fr to 39
  have z0' : Below w.heap.size w (w.alloc (.cells #[.slice a len cap, t, .int .i64 k, .int .i64 fr, .int .i64 to] 39)) := (Below.refl _ _).alloc (Nat.le_refl _) _
  obtain ⟨wB, hwB⟩ : ∃ wB, w.alloc (.cells #[.slice a len cap, t, .int .i64 k, .int .i64 fr, .int .i64 to] 39) = wB := ⟨_, rfl⟩
  rw [hwB] at J0 z0'
  have J := Lib.hid J0
  have z0 := Lib.hid z0'
  have hwB' := Lib.hid hwB
  clear J0 z0' hwB
  have C := Lib.hid (cut_ok a len cap zs k fr to wB (h.kept z0.out) hr hk n1 n2 n3)
  obtain ⟨x1, x2⟩ := allR_getD (rightS_parts hr).2.2.1 k (by have := h.1; omega)
  have hzl := Lib.hid h.1
  have hZ := Lib.hid h.2.2.1
  have D := Lib.hid (fun w1 (hb : Below wB.heap.size wB w1) => refshape_any a len cap zs w1 ((h.kept z0.out).kept hb))
  rw [hr] at D
  obtain ⟨b, off, rfl, hc⟩ : ∃ b off, a = some ⟨b, off, none⟩ ∧ ∀ j, j < len → wB.cell? ⟨b, off + j, none⟩ = some (.int .i64 (zs.getD j 0)) := by
    rcases (h.kept z0.out).2.2.2 with h4 | ⟨b, off, ha, hc⟩
    · omega
    · exact ⟨b, off, ha, hc⟩
  have hcell := Lib.hid (fun w1 (hb : Below wB.heap.size wB w1) j hj => cell_later hb (hc j hj))
  clear hc
  obtain ⟨x, hx⟩ : ∃ x, zs.getD k 0 = x := ⟨_, rfl⟩
  rw [hx] at n2 x1 x2
  replace hx := Lib.hid hx
  have d0 : decide ((k : Int) < 0) = false := decide_eq_false (by omega)
  have d1 : decide ((len : Int) ≤ k) = false := decide_eq_false (by omega)
  have d1' : decide (len ≤ k) = false := decide_eq_false (by omega)
  have d2 : decide (fr < 0) = false := decide_eq_false (by omega)
  have d3 : decide (x < to) = false := decide_eq_false (by omega)
  have d4 : decide (to ≤ fr) = false := decide_eq_false (by omega)
  have hlr := (show len ≤ 50 by omega)
  clear h hr
  go_enter Try.func7, Try.ntmps7
  go_wp2_with fail
  rw [hwB'.out]
  refine C.out.mono ?_
  rintro e w1 ⟨A, c, rfl, ho, hb1⟩
  obtain ⟨g, c', hv⟩ := Joins.ownsRow_form ho (by omega)
  simp only [Value.slice.injEq] at hv
  obtain ⟨rfl, -, rfl⟩ := hv
  have hrow := Lib.hid (fun j (hj : j < len) => ho.cellAt j (by omega))
  clear ho
  obtain ⟨j0, j1, j2, j3, j4⟩ := J.out.kept hb1
  go_wp2_with fail
  refine (D.out w1 hb1).mono ?_
  rintro e w' ⟨rfl, rfl⟩
  have hc1 := hcell.out w1 hb1 k hk
  rw [hx.out] at hc1
  go_wp2_with fail
  go_quiet (fail)
  clear hc1
  go_wp2_with fail
  go_loopw [84] (fun i wr => ∃ j m : Nat, j ≤ len ∧ i = .int .i64 j ∧ wr = w1.drewN m) (fun i _ => len - (intOf i).toNat)
  case atStart => exact ⟨0, _, Nat.zero_le _, rfl, rfl⟩
  case round =>
    obtain ⟨j, m, hj, rfl, rfl⟩ := hrel
    by_cases hlt : j < len
    · have e1 := hcell.out w1 hb1 j hlt
      have d5 : decide ((j : Int) < len) = true := decide_eq_true (by omega)
      have d5' : decide (j < len) = true := decide_eq_true (by omega)
      by_cases hjk : j = k
      · subst hjk
        go_wp2_with fail
        go_quiet (fail)
        go_wp2_with fail
        go_roundw
        case rel => exact ⟨j + 1, _, by omega, by go_num, rfl⟩
        case measure => (simp [intOf]; try omega)
      · have e2 : w1.cell? ⟨g, j, none⟩ = some (.int .i64 (zs.getD j 0)) := by
          rw [hrow.out j hlt, map_at _ j (by rw [List.length_set, hzl.out]; omega), set_other zs k j (to - fr) hjk]
        generalize zs.getD j 0 = y at *
        have d6 : ((j : Int) == (k : Int)) = false := by simp; omega
        have d7 : ((j : Int) != (k : Int)) = true := by simp; omega
        have d8 : decide (j = k) = false := decide_eq_false hjk
        go_wp2_with fail
        go_quiet (fail)
        go_wp2_with fail
        go_roundw
        case rel => exact ⟨j + 1, _, by omega, by go_num, rfl⟩
        case measure => (simp [intOf]; try omega)
    · have e1 := hcell.out w1 hb1 k hk
      rw [hx.out] at e1
      have e2 : w1.cell? ⟨g, k, none⟩ = some (.int .i64 (to - fr)) := by
        rw [hrow.out k hk, map_at _ k (by rw [List.length_set, hzl.out]; omega), set_self zs k (to - fr) (by rw [hzl.out]; omega)]
      have r1 : IntKind.i64.wrap (to - fr) = to - fr := IntWalk.i64_in _ (by omega)
      obtain ⟨W, hW⟩ : ∃ W, w1.drewN m = W := ⟨_, rfl⟩
      have hbW : Below wB.heap.size wB W := by rw [← hW]; exact below_drewN' hb1 m
      have f1 : W.cell? ⟨b, off + k, none⟩ = some (.int .i64 x) := by rw [← hW]; exact e1
      have f2 : W.cell? ⟨g, k, none⟩ = some (.int .i64 (to - fr)) := by rw [← hW]; exact e2
      obtain ⟨i0, i1, i2, i3, i4⟩ := J.out.kept hbW
      rw [hW]
      clear hW e1 e2 j0 j1 j2 j3 j4 hrow hb1
      go_wp2_with fail
      go_still_tail 24, (by kernel_rfl)
      change wpList _ _ _ _ _ W.drew
      have hbW' := hbW.drew
      generalize W.drew = W2 at *
      go_wp2_with fail
      refine (awake03_any _).mono ?_
      rintro e w9 ⟨rfl, hb9⟩
      go_wp2_with fail
      go_ret
      exact ⟨rfl, z0.out.trans ((hbW'.trans (hb9.mono hbW'.size)).mono z0.out.size)⟩

set_option maxHeartbeats 400000 in
theorem shapeCuts_walk (a : Option Addr) (len cap : Nat) (zs : List Int) (a2 : Option Addr) (len2 cap2 : Nat) (zs2 : List Int) (side fr to : Int) (w : World) (h : IntsAt w a len zs) (h2 : IntsAt w a2 len2 zs2)
    (s1 : -9223372036854775808 ≤ side) (s2 : side ≤ 9223372036854775807) (f1 : -9223372036854775808 ≤ fr) (f2 : fr ≤ 9223372036854775807) (t1 : -9223372036854775808 ≤ to) (t2 : to ≤ 9223372036854775807) :
    Calls Try.prog 7 #[.agg #[.slice a len cap, .slice a2 len2 cap2, .int .i64 side, .int .i64 fr, .int .i64 to]] w fun e w' => e = .returned (.bool true) ∧ Below w.heap.size w w' := by
  by_cases hlen : 50 < len
  · exact cuts_long a len cap zs _ side fr to w h hlen
  cases hr : rightS zs
  · exact cuts_wrong a len cap zs _ side fr to w h hlen hr
  by_cases c1 : side < 0
  · exact cuts_low a len cap zs _ side fr to w h hlen hr c1
  by_cases c2 : len ≤ side
  · exact cuts_high a len cap zs _ side fr to w h hlen hr c1 c2
  obtain ⟨k, rfl⟩ : ∃ k : Nat, side = k := ⟨side.toNat, by omega⟩
  have hk : k < len := by omega
  by_cases c3 : fr < 0
  · exact cuts_neg a len cap zs _ k fr to w h hlen hr hk c3
  by_cases c4 : zs.getD k 0 < to
  · exact cuts_past a len cap zs _ k fr to w h hlen hr hk c3 c4
  by_cases c5 : to ≤ fr
  · exact cuts_empty a len cap zs _ k fr to w h hlen hr hk c3 c4 c5
  · exact cuts_ok a len cap zs _ k fr to w h hlen hr hk (by omega) (by omega) (by omega)
end Go.Proofs.Ytieajkpjkhdjeaa
