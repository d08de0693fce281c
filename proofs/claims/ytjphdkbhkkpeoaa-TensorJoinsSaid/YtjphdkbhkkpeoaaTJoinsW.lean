/-
  The walk of the statement TensorJoins: all ways.
-/
import Derived.Test.YtjphdkbhkkpeoaaTJoinsB
namespace Go.Proofs.Ytjphdkbhkkpeoaa
open Go.RowKit
set_option linter.unusedVariables false

set_option maxHeartbeats 400000 in
theorem tensorJoins_walk (sa : Option Addr) (sl sc : Nat) (ss : List Int) (ca : Option Addr) (cl cc : Nat) (cs : List Int) (sa2 : Option Addr) (sl2 sc2 : Nat) (ss2 : List Int) (ca2 : Option Addr) (cl2 cc2 : Nat) (ds : List Int) (side fr upto : Int) (w : World) (h : IntsAt w sa sl ss ∧ Capped sl sc) (hc : IntsAt w ca cl cs ∧ Capped cl cc) (h2 : IntsAt w sa2 sl2 ss2 ∧ Capped sl2 sc2) (hd : IntsAt w ca2 cl2 ds ∧ Capped cl2 cc2) (i1 : In64I side) (i2 : In64I fr) (i3 : In64I upto) :
    Calls Try.prog 6 #[.agg #[.slice sa sl sc, .slice ca cl cc, .slice sa2 sl2 sc2, .slice ca2 cl2 cc2, .int .i64 side, .int .i64 fr, .int .i64 upto]] w fun e w' => e = .returned (.bool true) ∧ Below w.heap.size w w' := by
  cases b : smallT sl cl
  · exact tjoins_long1 sa sl sc ss ca cl cc cs sa2 sl2 sc2 ss2 ca2 cl2 cc2 ds side fr upto w h.1 h.2 hc.1 hc.2 h2.1 h2.2 hd.1 hd.2 b
  cases b2 : smallT sl2 cl2
  · exact tjoins_long2 sa sl sc ss ca cl cc cs sa2 sl2 sc2 ss2 ca2 cl2 cc2 ds side fr upto w h.1 h.2 hc.1 hc.2 h2.1 h2.2 hd.1 hd.2 b b2
  cases hT : rightT ss cl
  · exact tjoins_wrong1 sa sl sc ss ca cl cc cs sa2 sl2 sc2 ss2 ca2 cl2 cc2 ds side fr upto w h.1 h.2 hc.1 hc.2 h2.1 h2.2 hd.1 hd.2 b b2 hT
  cases hT2 : rightT ss2 cl2
  · exact tjoins_wrong2 sa sl sc ss ca cl cc cs sa2 sl2 sc2 ss2 ca2 cl2 cc2 ds side fr upto w h.1 h.2 hc.1 hc.2 h2.1 h2.2 hd.1 hd.2 b b2 hT hT2
  have hrs := (rightT_parts hT).1
  have hrs2 := (rightT_parts hT2).1
  by_cases hn : sl = sl2
  · subst hn
    cases hD : hasD sl side
    · exact tjoins_none sa sl sc ss ca cl cc cs sa2 sl sc2 ss2 ca2 cl2 cc2 ds side fr upto w h.1 h.2 hc.1 hc.2 h2.1 h2.2 hd.1 hd.2 b b2 hT hT2 11 (by omega) (fun w1 hb => join_none sa sl sc ss sa2 sc2 ss2 side w1 (h.1.kept hb) (h2.1.kept hb) hrs hrs2 hD)
    obtain ⟨k, hk, rfl⟩ := hasD_nat hD
    cases hs : sameL (ss.set k (ss2.getD k 0)) ss2
    · exact tjoins_none sa sl sc ss ca cl cc cs sa2 sl sc2 ss2 ca2 cl2 cc2 ds k fr upto w h.1 h.2 hc.1 hc.2 h2.1 h2.2 hd.1 hd.2 b b2 hT hT2 20 (by omega) (fun w1 hb => join_other sa sl sc ss sa2 sc2 ss2 k w1 (h.1.kept hb) (h2.1.kept hb) hrs hrs2 hk hs)
    cases hr : rightS (ss.set k (ss.getD k 0 + ss2.getD k 0))
    · exact tjoins_none sa sl sc ss ca cl cc cs sa2 sl sc2 ss2 ca2 cl2 cc2 ds k fr upto w h.1 h.2 hc.1 hc.2 h2.1 h2.2 hd.1 hd.2 b b2 hT hT2 20 (by omega) (fun w1 hb => join_big sa sl sc ss sa2 sc2 ss2 k w1 (h.1.kept hb) (h2.1.kept hb) hrs hrs2 hk hs hr)
    have hx := (allR_getD (rightS_parts hrs).2.2.1 k (by have := h.1.1; omega)).1
    have hy := (allR_getD (rightS_parts hrs2).2.2.1 k (by have := h2.1.1; omega)).1
    obtain ⟨x, hx2⟩ : ∃ x : Nat, ss.getD k 0 = x := ⟨(ss.getD k 0).toNat, by omega⟩
    obtain ⟨y, hy2⟩ : ∃ y : Nat, ss2.getD k 0 = y := ⟨(ss2.getD k 0).toNat, by omega⟩
    have hss : ss2 = ss.set k y := by rw [← hy2]; exact (sameL_eq hs).symm
    have hr' := hr
    rw [hx2, hy2] at hr'
    exact tjoins_ok sa sl sc ss ca cl cc cs sa2 sl sc2 ss2 ca2 cl2 cc2 ds k x y fr upto w h.1 h.2 hc.1 hc.2 h2.1 h2.2 hd.1 hd.2 b b2 hT hT2 hk hx2 hy2 (by omega) (by omega) hss hr' (fun w1 hb => by
      have := join_ok sa sl sc ss sa2 sc2 ss2 k w1 (h.1.kept hb) (h2.1.kept hb) hrs hrs2 hk hs hr
      rw [hx2, hy2] at this
      exact this)
  · exact tjoins_none sa sl sc ss ca cl cc cs sa2 sl2 sc2 ss2 ca2 cl2 cc2 ds side fr upto w h.1 h.2 hc.1 hc.2 h2.1 h2.2 hd.1 hd.2 b b2 hT hT2 20 (by omega) (fun w1 hb => join_wrong sa sl sc ss sa2 sl2 sc2 ss2 side w1 (h.1.kept hb) (h2.1.kept hb) (fun q => hn q.2.2))
end Go.Proofs.Ytjphdkbhkkpeoaa
