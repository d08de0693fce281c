/-
  Contracts of the reference package of layer 1: the product by its bits.
-/
import Derived.Test.YtlpecdfiagklpaaRef01W
import Derived.LoopTactic
import Derived.WalkSmall
namespace Go.Proofs.Ytlpecdfiagklpaa
open Go.RowKit
set_option linter.unusedVariables false
set_option linter.unusedSimpArgs false

/-- A block of the call's own holds two words. -/
def TwoAt (w : World) (b : Nat) (h l : Int) : Prop :=
  w.cell? ⟨b, 0, none⟩ = some (.int .u64 h) ∧ w.cell? ⟨b, 1, none⟩ = some (.int .u64 l) ∧ w.frozen? ⟨b, 0, none⟩ = false ∧ w.frozen? ⟨b, 1, none⟩ = false

theorem TwoAt.below {W w1 : World} {b : Nat} {h l : Int} (t : TwoAt W b h l) (hb : Below W.heap.size W w1) (hs : b < W.heap.size) : TwoAt w1 b h l :=
  ⟨((bcell hb).1 b 0 hs).trans t.1, ((bcell hb).1 b 1 hs).trans t.2.1, ((bcell hb).2 b 0 hs).trans t.2.2.1, ((bcell hb).2 b 1 hs).trans t.2.2.2⟩

theorem TwoAt.store {w : World} {b : Nat} {h l : Int} (t : TwoAt w b h l) (h' l' : Int) :
    TwoAt ((w.setCell ⟨b, 0, none⟩ (.int .u64 h')).setCell ⟨b, 1, none⟩ (.int .u64 l')) b h' l' := by
  obtain ⟨t1, t2, t3, t4⟩ := t
  refine ⟨?_, ?_, ?_, ?_⟩
  · rw [World.cell?_setCell_other _ _ _ _ (by simp), World.cell?_setCell_same _ _ _ t1]
  · exact World.cell?_setCell_same _ _ _ (u := .int .u64 l) (by rw [World.cell?_setCell_other _ _ _ _ (by simp)]; exact t2)
  · simp [t3]
  · simp [t4]
theorem TwoAt.other {w : World} {b c : Nat} {h l : Int} (t : TwoAt w b h l) (hne : c ≠ b) (o : Nat) (v : Value) : TwoAt (w.setCell ⟨c, o, none⟩ v) b h l := by
  obtain ⟨t1, t2, t3, t4⟩ := t
  refine ⟨?_, ?_, ?_, ?_⟩
  · rw [World.cell?_setCell_other _ _ _ _ (by simp [hne])]; exact t1
  · rw [World.cell?_setCell_other _ _ _ _ (by simp [hne])]; exact t2
  · simp [t3]
  · simp [t4]

set_option maxHeartbeats 400000 in
theorem refproduct_any (a b : Int) (w : World) (a0 : 0 ≤ a) (a1 : a ≤ 9223372036854775808) (b0 : 0 ≤ b) (b1 : b ≤ 9223372036854775808) :
    Calls Try.prog 48 #[.int .u64 a, .int .u64 b] w fun e w' => e = .returned (.agg #[.int .u64 (a * b / 18446744073709551616), .int .u64 (a * b % 18446744073709551616)]) ∧ Below w.heap.size w w' := by
  go_enter Try.func48, Try.ntmps48
  go_wp2
  go_loopw [6] (fun i wr => ∃ n : Nat, n ≤ 64 ∧ i = .int .i64 ((n : Int) - 1) ∧ w.heap.size + 2 ≤ wr.heap.size ∧
      TwoAt wr w.heap.size 0 0 ∧ TwoAt wr (w.heap.size + 1) (a * topBits b n / 18446744073709551616) (a * topBits b n % 18446744073709551616) ∧ Below w.heap.size w wr) (fun i _ => (intOf i + 1).toNat)
  case atStart =>
    have z : topBits b 64 = 0 := topBits_top b 64 b0 (by omega)
    refine ⟨64, by omega, rfl, by simp, ?_, ?_, ((Below.refl _ _).alloc (Nat.le_refl _) _).alloc (by simp) _⟩
    · refine ⟨?_, ?_, ?_, ?_⟩ <;> go_simp
    · rw [z, Int.mul_zero]
      refine ⟨?_, ?_, ?_, ?_⟩ <;> go_simp
  case round =>
    obtain ⟨n, hn, rfl, hsz, ⟨r1, r2, r3, r4⟩, ⟨c1, c2, c3, c4⟩, hb⟩ := hrel
    rcases n with _ | m
    · rw [topBits_zero] at c1 c2
      go_wp2_with fail
      exact bodyPost_ret (v := .agg #[.int .u64 (a * b / 18446744073709551616), .int .u64 (a * b % 18446744073709551616)]) (by simp [results, Try.results48, go_sem, r1, r2]) rfl ⟨rfl, (hb.setCell (by simp) _).setCell (by simp) _⟩
    · obtain ⟨V, hV⟩ : ∃ V, V = a * topBits b (m + 1) := ⟨_, rfl⟩
      rw [← hV] at c1 c2
      have vb := prod_le (B := 4611686018427387904) a0 (topBits_nonneg b (m + 1) b0) a1 (Int.le_trans (topBits_le_half b m b0) (by omega))
      rw [← hV] at vb
      obtain ⟨v0, v1⟩ := vb
      have hstep := mul_topBits a b m
      rw [← hV] at hstep
      have HV := Lib.hid hV; clear hV
      have D := Lib.hid (double_val V wr v0 (by omega))
      have hbit : bits .and .u64 (b / 2 ^ m) 1 = topBits b m % 2 := and1 _ (topBits_nonneg b m b0) (by have := topBits_le b m b0; unfold topBits at this; omega)
      by_cases c : topBits b m % 2 = 1
      · have cb : (bits .and .u64 (b / 2 ^ m) 1 == 1) = true := by rw [hbit, c]; rfl
        rw [c, Int.mul_one] at hstep
        have HS := Lib.hid hstep
        clear hbit c hstep
        rw [show ((m + 1 : Nat) : Int) - 1 = (m : Int) from by omega]
        go_wp2_with fail
        refine D.out.mono ?_
        rintro e w1 ⟨rfl, hb1⟩
        have hz := hb1.size
        have X := TwoAt.below ⟨c1, c2, c3, c4⟩ hb1 (by omega)
        have Y := TwoAt.below ⟨r1, r2, r3, r4⟩ hb1 (by omega)
        have hx := X
        obtain ⟨x1, x2, x3, x4⟩ := hx
        clear c1 c2 c3 c4 r1 r2 r3 r4
        go_wp2_with fail
        have X1 := X.store (V * 2 / 18446744073709551616) (V * 2 % 18446744073709551616)
        have Y1 := (Y.other (c := w.heap.size + 1) (by omega) 0 (.int .u64 (V * 2 / 18446744073709551616))).other (c := w.heap.size + 1) (by omega) 1 (.int .u64 (V * 2 % 18446744073709551616))
        clear x1 x2 x3 x4
        refine (plus_val (V * 2) a _ (by omega) (by omega) a0 (by omega)).mono ?_
        rintro e w2 ⟨rfl, hb2⟩
        have X2 := X1.below hb2 (by simp; omega)
        have Y2 := Y1.below hb2 (by simp; omega)
        have hz2 := hb2.size
        simp at hz2
        have hx := X2
        obtain ⟨x1, x2, x3, x4⟩ := hx
        go_wp2_with fail
        refine ⟨⟨m, by omega, rfl, by (simp; try omega), (Y2.other (by omega) _ _).other (by omega) _ _, ?_, ?_⟩, by (simp [intOf]; try omega)⟩
        · rw [HS.out]; exact X2.store _ _
        · exact ((((hb.trans (hb1.mono (by omega))).setCell (by simp) _).setCell (by simp) _).trans (hb2.mono (by simp; omega))).setCell (by simp) _ |>.setCell (by simp) _
      · have c' : topBits b m % 2 = 0 := by omega
        have cb : (bits .and .u64 (b / 2 ^ m) 1 == 1) = false := by rw [hbit, c']; rfl
        rw [c', Int.mul_zero, Int.add_zero] at hstep
        have HS := Lib.hid hstep
        clear hbit c c' hstep
        rw [show ((m + 1 : Nat) : Int) - 1 = (m : Int) from by omega]
        go_wp2_with fail
        refine D.out.mono ?_
        rintro e w1 ⟨rfl, hb1⟩
        have hz := hb1.size
        have X := TwoAt.below ⟨c1, c2, c3, c4⟩ hb1 (by omega)
        have Y := TwoAt.below ⟨r1, r2, r3, r4⟩ hb1 (by omega)
        have hx := X
        obtain ⟨x1, x2, x3, x4⟩ := hx
        clear c1 c2 c3 c4 r1 r2 r3 r4
        go_wp2_with fail
        refine ⟨⟨m, by omega, rfl, by (simp; try omega), (Y.other (by omega) _ _).other (by omega) _ _, ?_, ?_⟩, by (simp [intOf]; try omega)⟩
        · rw [HS.out]; exact X.store _ _
        · exact ((hb.trans (hb1.mono (by omega))).setCell (by simp) _).setCell (by simp) _
end Go.Proofs.Ytlpecdfiagklpaa
