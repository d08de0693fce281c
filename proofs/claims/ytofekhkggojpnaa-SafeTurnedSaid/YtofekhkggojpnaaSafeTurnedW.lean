/-
  The walk of the statement SafeTurned.
-/
import Derived.Test.YtofekhkggojpnaaAwake02
import Derived.Laws.OwnMore
import Derived.Deep.AppendLies
namespace Go.Proofs.Ytofekhkggojpnaa
open Go.RowKit
set_option linter.unusedVariables false
set_option linter.unusedSimpArgs false

theorem intInfo : (Try.prog.info? 3).map (fun i => (i.zero, i.size, i.bytes)) = some (some (.int .i64 0), 1, 8) := by kernel_rfl

theorem own_ints {w : World} {B : Nat} {e : TypeId} {v : Value} {n : Nat} {zs : List Int} (h : w.ownsRow B e 1 v n (zs.map (Value.int .i64))) (hl : zs.length = n) (h1 : n ≤ 9223372036854775807) (hf : Fits zs) :
    ∃ A cap, v = .slice A n cap ∧ IntsAt w A n zs := by
  by_cases hn : 0 < n
  · obtain ⟨g, cap, hv, _, hlt⟩ := h.form hn
    refine ⟨_, cap, hv, hl, h1, hf, .inr ⟨g, 0, rfl, ?_⟩⟩
    intro j hj
    have hc := h.cells (g := g) (by rw [hv]; rfl) j (.int .i64 (zs.getD j 0)) (by simp [List.getD, List.getElem?_eq_getElem (show j < zs.length by omega)])
    have e : (⟨g, 0, none⟩ : Addr).add j = ⟨g, 0 + j, none⟩ := by
      unfold Addr.add; split
      · rename_i hz; subst hz; rfl
      · rfl
    rw [e] at hc
    exact hc
  · obtain rfl : n = 0 := by omega
    obtain rfl : zs = [] := List.length_eq_zero_iff.1 hl
    rcases h.2 with ⟨hv, _⟩ | ⟨g, cap, cur, hv, _⟩
    · exact ⟨_, _, hv, IntsAt.nil _ _⟩
    · exact ⟨_, _, hv, IntsAt.nil _ _⟩

def revV (zs : List Int) (k : Nat) : List Value := (zs.reverse.take k).map (Value.int .i64)
theorem rev_step (zs : List Int) (k : Nat) (hk : k < zs.length) : revV zs (k + 1) = revV zs k ++ [.int .i64 (zs.getD (zs.length - 1 - k) 0)] := by
  unfold revV
  rw [List.take_add_one, List.map_append]
  have : zs.reverse[k]? = some (zs.getD (zs.length - 1 - k) 0) := by
    rw [List.getElem?_reverse hk]
    simp [List.getD, List.getElem?_eq_getElem (show zs.length - 1 - k < zs.length by omega)]
  rw [this]; rfl
theorem rev_full (zs : List Int) : revV zs zs.length = zs.reverse.map (Value.int .i64) := by
  unfold revV; rw [List.take_of_length_le (by simp)]
theorem Fits.reverse {l : List Int} (h : Fits l) : Fits l.reverse := fun n hn => h n (List.mem_reverse.1 hn)

set_option maxHeartbeats 4000000 in
theorem safeTurned_walk (a : Option Addr) (len cap : Nat) (zs : List Int) (w : World) (h : IntsAt w a len zs) :
    Calls Try.prog 7 #[.slice a len cap] w fun e w' => e = .returned (.bool true) ∧ Below w.heap.size w w' := by
  by_cases g : 200 < len
  · go_enter Try.func7, Try.ntmps7
    go_wp2_with fail
    refine (awake02_any _).mono ?_
    rintro e w2 ⟨rfl, hb2⟩
    go_wp2_with fail
    go_ret
    exact ⟨rfl, hb2⟩
  obtain ⟨i0, hi, hz0, hz1, hz2⟩ := info_parts intInfo
  have H := Lib.hid h
  obtain ⟨h1, h2, h3, h4⟩ := h
  have hl := Lib.hid h1
  go_enter Try.func7, Try.ntmps7
  go_wp2_with fail
  go_loopw [3, 19] (fun v i wr => ∃ k : Nat, k ≤ len ∧ i = .int .i64 k ∧ wr.ownsRow w.heap.size 3 1 v k (revV zs k) ∧ Below w.heap.size w wr)
    (fun _ i _ => len - (intOf i).toNat)
  case atStart => exact ⟨0, Nat.zero_le _, rfl, World.ownsRow_nil _ _ _ _, Below.refl _ _⟩
  case round =>
    obtain ⟨k, hk, rfl, hown, hnx⟩ := hrel
    by_cases hlt : k < len
    · rcases h4 with h4 | ⟨b, off, rfl, hc⟩
      · omega
      · have hcell := cell_later hnx (hc (len - 1 - k) (by omega))
        clear hc
        have hs := Lib.hid (rev_step zs k (by omega))
        rw [h1] at hs
        generalize zs.getD (len - 1 - k) 0 = x at *
        clear h1
        go_wp2_with (at_builtin; refine wpList_append_own _ rfl _ _ 22 rfl w.heap.size 3 i0 (.int .i64 0) 1 8 Try.underlying22 hi hz0 hz1 hz2 rfl (by decide) _ _ _ rfl (hown.alloc _) ⟨wr.heap.size, 0, none⟩ 1 1 [.int .i64 x] rfl rfl ?c1 ?c2 ?c3 ?c4 ?c5 ?_)
        case c1 =>
          intro j u hj
          match j, hj with
          | 0, hj => simp at hj; subst hj; simp [Addr.add]
        case c2 => intro u hu; simp at hu; subst hu; rfl
        case c3 => unfold maxLen; omega
        case c4 => omega
        case c5 => have := hnx.size; simp; omega
        intro v' w1 hown' hgrow _
        have hb := (hnx.alloc hnx.size (.cells #[.int .i64 x] 3)).grown hgrow (by have := hnx.size; simp; omega) (fun j hj => by have := (hown.lt j hj).1; omega)
        have ho : Hid (w1.ownsRow w.heap.size 3 1 v' (k + 1) (revV zs (k + 1))) := by show World.ownsRow _ _ _ _ _ _ _; rw [hs.out]; exact hown'
        clear hown' hgrow hown hnx hcell
        go_wp2_with fail
        go_roundw
        case rel => exact ⟨k + 1, by omega, by go_num, ho.out, hb⟩
        case measure => (simp [intOf]; try omega)
    · obtain rfl : k = len := by omega
      rw [show revV zs k = zs.reverse.map (Value.int .i64) by rw [← h1, rev_full]] at hown
      obtain ⟨A, c2, rfl, hr⟩ := own_ints hown (by simpa using h1) h2 h3.reverse
      have K1 := Lib.hid (safeadd_any a k cap zs wr (H.out.kept hnx))
      have K2 := Lib.hid (fun w1 (hb : Below wr.heap.size wr w1) => safeadd_any A k c2 zs.reverse w1 (hr.kept hb))
      have K3 := Lib.hid (fun w1 (hb : Below wr.heap.size wr w1) => safemul_any a k cap zs w1 ((H.out.kept hnx).kept hb))
      have K4 := Lib.hid (fun w1 (hb : Below wr.heap.size wr w1) => safemul_any A k c2 zs.reverse w1 (hr.kept hb))
      rw [addN_reverse, addE_reverse] at K2
      rw [mulN_reverse, mulE_reverse] at K4
      generalize addN zs = n1 at *
      generalize addE zs = n2 at *
      generalize mulN zs = n3 at *
      generalize mulE zs = n4 at *
      clear h1 h3 h4 hown hr
      go_wp2_with fail
      refine K1.out.mono ?_
      rintro e w1 ⟨rfl, b1⟩
      go_wp2_with fail
      refine (K2.out w1 b1).mono ?_
      rintro e w2 ⟨rfl, b2⟩
      replace b2 := b1.trans (b2.mono b1.size)
      clear b1
      go_wp2_with fail
      refine (K3.out w2 b2).mono ?_
      rintro e w3 ⟨rfl, b3⟩
      replace b3 := b2.trans (b3.mono b2.size)
      clear b2
      go_wp2_with fail
      refine (K4.out w3 b3).mono ?_
      rintro e w4 ⟨rfl, b4⟩
      replace b4 := b3.trans (b4.mono b3.size)
      clear b3
      go_wp2_with fail
      refine (awake02_any _).mono ?_
      rintro e w5 ⟨rfl, b5⟩
      go_wp2_with fail
      go_ret
      exact ⟨rfl, hnx.trans ((b4.trans (b5.mono b4.size)).mono hnx.size)⟩
end Go.Proofs.Ytofekhkggojpnaa
