/-
  The struct of two tensors opened with its capacities; the statements' file: same.
-/
import Derived.Test.YtjphdkbhkkpeoaaRefCutW
import Derived.Test.YtjphdkbhkkpeoaaPart
namespace Go.Proofs.Ytjphdkbhkkpeoaa
open Go.RowKit Go.ChangeShapes Go.WideShapes Go.Deep
set_option linter.unusedVariables false
set_option linter.unusedSimpArgs false

/-- A slice's length is at most its capacity, and that fits. -/
def Capped (len cap : Nat) : Prop := len ≤ cap ∧ cap ≤ 9223372036854775807

theorem field_ints2 {H : Type} {enc : TypeId × Value → H} {P : Program} {w : World} {base : Nat} {spare : Nat → Bool} {held : Bool} {t e : TypeId} {fuel : Nat} {c : Value} {x : DataW H × List MemPlace} (ht : P.underlying t = some (.slice e)) (he : P.underlying e = some (.int .i64)) (hc : P.cellsOf e = 1)
    (h : DataW.trod enc P w base spare held fuel t [c] = some x) : ∃ a len cap zs, c = .slice a len cap ∧ IntsAt w a len zs ∧ Capped len cap := by
  rcases open_ints ht he hc h with ⟨hcs, -⟩ | ⟨a, len, cap, zs, hcs, -, hl, hm, hz, -, hcell, hwz⟩
  · obtain rfl := (List.cons.inj hcs).1
    exact ⟨_, _, _, _, rfl, IntsAt.nil _ _, Nat.le_refl _, by omega⟩
  · obtain rfl := (List.cons.inj hcs).1
    have hm' : cap ≤ 9223372036854775807 := by have := hm; unfold maxLen at this; omega
    refine ⟨_, _, cap, zs.take len, rfl, ?_, hl, hm'⟩
    by_cases hs : zs.length = cap
    · exact IntsAt.of_row hl hm hs hcell hwz
    · have hz' : zs.length = len := by
        split at hz
        · exact absurd hz hs
        · exact hz
      exact IntsAt.of_row (cap := len) (Nat.le_refl _) (by omega) hz' hcell hwz

theorem grid_cells2 {H : Type} {enc : TypeId × Value → H} {w : World} {base : Nat} {spare : Nat → Bool} {held : Bool} {fuel : Nat} {c0 c1 : Value} {x : DataW H × List MemPlace}
    (h : DataW.trod enc Try.prog w base spare held fuel 26 [c0, c1] = some x) :
    ∃ sa sl sc ss ca cl cc cs, c0 = .slice sa sl sc ∧ c1 = .slice ca cl cc ∧ (IntsAt w sa sl ss ∧ Capped sl sc) ∧ (IntsAt w ca cl cs ∧ Capped cl cc) := by
  obtain ⟨n, hf⟩ := struct_field Try.underlying26 h
  obtain ⟨y0, h0⟩ := hf 0 _ rfl
  obtain ⟨y1, h1⟩ := hf 1 _ rfl
  have g0 : DataW.trod enc Try.prog w base spare held n 23 (([c0, c1].drop 0).take (Try.prog.cellsOf 23)) = some y0 := h0
  have g1 : DataW.trod enc Try.prog w base spare held n 24 (([c0, c1].drop 1).take (Try.prog.cellsOf 24)) = some y1 := h1
  rw [cellsS] at g0
  rw [cellsF] at g1
  replace g0 : DataW.trod enc Try.prog w base spare held n 23 [c0] = some y0 := g0
  replace g1 : DataW.trod enc Try.prog w base spare held n 24 [c1] = some y1 := g1
  obtain ⟨sa, sl, sc, ss, rfl, w0, p0⟩ := field_ints2 Try.underlying23 Try.underlying3 (by kernel_rfl) g0
  obtain ⟨ca, cl, cc, cs, rfl, w1, p1⟩ := field_ints2 Try.underlying24 Try.underlying27 (by kernel_rfl) g1
  exact ⟨sa, sl, sc, ss, ca, cl, cc, cs, rfl, rfl, ⟨w0, p0⟩, ⟨w1, p1⟩⟩

def In64I (n : Int) : Prop := -9223372036854775808 ≤ n ∧ n ≤ 9223372036854775807

set_option maxRecDepth 100000 in
theorem part_open2 {H : Type} {enc : TypeId × Value → H} {w : World} {base : Nat} {spare : Nat → Bool} {held : Bool} {r : Reach} {b0 : Nat} {v : Value} {d : DataW H} {p : List MemPlace}
    (hv : Value.okWide Try.prog w r b0 47 v) (h : DataW.Trod enc Try.prog w base spare held 47 v d p) :
    ∃ sa sl sc ss ca cl cc cs sa2 sl2 sc2 ss2 ca2 cl2 cc2 ds side fr upto, v = .agg #[.slice sa sl sc, .slice ca cl cc, .slice sa2 sl2 sc2, .slice ca2 cl2 cc2, .int .i64 side, .int .i64 fr, .int .i64 upto] ∧
      (IntsAt w sa sl ss ∧ Capped sl sc) ∧ (IntsAt w ca cl cs ∧ Capped cl cc) ∧ (IntsAt w sa2 sl2 ss2 ∧ Capped sl2 sc2) ∧ (IntsAt w ca2 cl2 ds ∧ Capped cl2 cc2) ∧ In64I side ∧ In64I fr ∧ In64I upto := by
  obtain ⟨cs, n, rfl, hl, hf⟩ := agg_nested Try.underlying47 hv h
  rw [cellsP] at hl
  match cs, hl with
  | [c0, c1, c2, c3, c4, c5, c6], _ =>
    obtain ⟨y0, h0⟩ := hf 0 _ rfl
    have g0 : DataW.trod enc Try.prog w base spare held n 26 (([c0, c1, c2, c3, c4, c5, c6].drop 0).take (Try.prog.cellsOf 26)) = some y0 := h0
    rw [cellsG] at g0
    replace g0 : DataW.trod enc Try.prog w base spare held n 26 [c0, c1] = some y0 := g0
    obtain ⟨y1, h1⟩ := hf 1 _ rfl
    have g1 : DataW.trod enc Try.prog w base spare held n 26 (([c0, c1, c2, c3, c4, c5, c6].drop 2).take (Try.prog.cellsOf 26)) = some y1 := h1
    rw [cellsG] at g1
    replace g1 : DataW.trod enc Try.prog w base spare held n 26 [c2, c3] = some y1 := g1
    obtain ⟨y2, h2⟩ := hf 2 _ rfl
    have g2 : DataW.trod enc Try.prog w base spare held n 3 (([c0, c1, c2, c3, c4, c5, c6].drop 4).take (Try.prog.cellsOf 3)) = some y2 := h2
    rw [cellsI] at g2
    replace g2 : DataW.trod enc Try.prog w base spare held n 3 [c4] = some y2 := g2
    obtain ⟨y3, h3⟩ := hf 3 _ rfl
    have g3 : DataW.trod enc Try.prog w base spare held n 3 (([c0, c1, c2, c3, c4, c5, c6].drop 5).take (Try.prog.cellsOf 3)) = some y3 := h3
    rw [cellsI] at g3
    replace g3 : DataW.trod enc Try.prog w base spare held n 3 [c5] = some y3 := g3
    obtain ⟨y4, h4⟩ := hf 4 _ rfl
    have g4 : DataW.trod enc Try.prog w base spare held n 3 (([c0, c1, c2, c3, c4, c5, c6].drop 6).take (Try.prog.cellsOf 3)) = some y4 := h4
    rw [cellsI] at g4
    replace g4 : DataW.trod enc Try.prog w base spare held n 3 [c6] = some y4 := g4
    obtain ⟨sa, sl, sc, ss, ca, cl, cc, cs, rfl, rfl, i0, i1⟩ := grid_cells2 g0
    obtain ⟨sa2, sl2, sc2, ss2, ca2, cl2, cc2, cs2, rfl, rfl, i2, i3⟩ := grid_cells2 g1
    obtain ⟨k1, rfl, a1, b1⟩ := field_int Try.underlying3 g2
    obtain ⟨k2, rfl, a2, b2⟩ := field_int Try.underlying3 g3
    obtain ⟨k3, rfl, a3, b3⟩ := field_int Try.underlying3 g4
    exact ⟨sa, sl, sc, ss, ca, cl, cc, cs, sa2, sl2, sc2, ss2, ca2, cl2, cc2, cs2, k1, k2, k3, rfl, i0, i1, i2, i3, ⟨a1, b1⟩, ⟨a2, b2⟩, ⟨a3, b3⟩⟩

set_option maxHeartbeats 2000000 in
theorem lsame_any (sa : Option Addr) (sl sc : Nat) (ca : Option Addr) (cl cc : Nat) (cs : List Int) (da : Option Addr) (dc : Nat) (w : World) (h : IntsAt w ca cl cs) (h' : IntsAt w da cl cs) :
    Calls Try.prog 24 #[.agg #[.slice sa sl sc, .slice ca cl cc], .slice da cl dc] w fun e w' => e = .returned (.bool true) ∧ Below w.heap.size w w' := by
  obtain ⟨wA, hwA, J, z, n1⟩ := grid_box w (.slice sa sl sc) (.slice ca cl cc)
  have HC := Lib.hid (fun w1 (hb : Below wA.heap.size wA w1) => (h.kept z.out).kept hb)
  have HD := Lib.hid (fun w1 (hb : Below wA.heap.size wA w1) => (h'.kept z.out).kept hb)
  have hl := h.2.1
  obtain ⟨j0, j1, -, -⟩ := J.out.see
  clear h h'
  go_enter Try.func24, Try.ntmps24
  go_upto_region 1 with (fail)
  rw [hwA.out]
  go_wp2_with fail
  go_loopw [14] (fun i wr => ∃ k m : Nat, k ≤ cl ∧ i = .int .i64 k ∧ wr = wA.drewN m) (fun i _ => cl - (intOf i).toNat)
  case atStart => exact ⟨0, 0, Nat.zero_le _, rfl, rfl⟩
  case round =>
    obtain ⟨k, m, hk, rfl, rfl⟩ := hrel
    have bm := below_drewN' (Below.refl wA.heap.size wA) m
    by_cases hlt : k < cl
    · obtain ⟨b, off, rfl, e1⟩ : ∃ b off, ca = some ⟨b, off, none⟩ ∧ wA.cell? ⟨b, off + k, none⟩ = some (.int .i64 (cs.getD k 0)) := by
        rcases (HC.out wA (Below.refl _ _)).2.2.2 with h4 | ⟨b, off, ha, hcc⟩
        · omega
        · exact ⟨b, off, ha, hcc k hlt⟩
      obtain ⟨b', off', rfl, e2⟩ : ∃ b off, da = some ⟨b, off, none⟩ ∧ wA.cell? ⟨b, off + k, none⟩ = some (.int .i64 (cs.getD k 0)) := by
        rcases (HD.out wA (Below.refl _ _)).2.2.2 with h4 | ⟨b, off, ha, hcc⟩
        · omega
        · exact ⟨b, off, ha, hcc k hlt⟩
      generalize cs.getD k 0 = x at e1 e2
      obtain ⟨W, hW⟩ : ∃ W, wA.drewN m = W := ⟨_, rfl⟩
      have f1 : W.cell? ⟨b, off + k, none⟩ = some (.int .i64 x) := by rw [← hW]; exact e1
      have f2 : W.cell? ⟨b', off' + k, none⟩ = some (.int .i64 x) := by rw [← hW]; exact e2
      have f3 : W.cell? ⟨w.heap.size, 1, none⟩ = some (.slice (some ⟨b, off, none⟩) cl cc) := by rw [← hW]; exact j1
      have HW := Lib.hid hW
      rw [hW]
      clear hW e1 e2 bm
      go_wp2_with fail
      go_quiet (fail)
      go_wp2_with fail
      go_roundw
      case rel => exact ⟨k + 1, _, by omega, by go_num, by rw [← HW.out, World.drewN_drewN]⟩
      case measure => (simp [intOf]; try omega)
    · go_wp2_with fail
      go_ret
      exact ⟨rfl, below_drewN' z.out m⟩
end Go.Proofs.Ytjphdkbhkkpeoaa
