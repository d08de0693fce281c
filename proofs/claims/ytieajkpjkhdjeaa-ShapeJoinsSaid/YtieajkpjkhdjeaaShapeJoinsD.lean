/-
  The walk of the statement ShapeJoins, all ways.
-/
import Derived.Test.YtieajkpjkhdjeaaShapeJoinsC
namespace Go.Proofs.Ytieajkpjkhdjeaa
open Go.RowKit
set_option linter.unusedVariables false
set_option linter.unusedSimpArgs false

set_option maxHeartbeats 400000 in
theorem shapeJoins_walk (a : Option Addr) (len cap : Nat) (zs : List Int) (a2 : Option Addr) (len2 cap2 : Nat) (zs2 : List Int) (side fr to : Int) (w : World) (h : IntsAt w a len zs) (h2 : IntsAt w a2 len2 zs2)
    (s1 : -9223372036854775808 ≤ side) (s2 : side ≤ 9223372036854775807) (f1 : -9223372036854775808 ≤ fr) (f2 : fr ≤ 9223372036854775807) (t1 : -9223372036854775808 ≤ to) (t2 : to ≤ 9223372036854775807) :
    Calls Try.prog 6 #[.agg #[.slice a len cap, .slice a2 len2 cap2, .int .i64 side, .int .i64 fr, .int .i64 to]] w fun e w' => e = .returned (.bool true) ∧ Below w.heap.size w w' := by
  by_cases hlen : 50 < len
  · exact joins_long1 a len cap zs a2 len2 cap2 zs2 side fr to w h h2 hlen
  by_cases hlen2 : 50 < len2
  · exact joins_long2 a len cap zs a2 len2 cap2 zs2 side fr to w h h2 hlen hlen2
  cases b1 : rightS zs
  · exact joins_w1 a len cap zs a2 len2 cap2 zs2 side fr to w h h2 hlen hlen2 b1
  cases b2 : rightS zs2
  · exact joins_w2 a len cap zs a2 len2 cap2 zs2 side fr to w h h2 hlen hlen2 b1 b2
  by_cases hne : len = len2
  · subst hne
    by_cases c1 : side < 0
    · exact joins_low a len cap zs a2 cap2 zs2 side fr to w h h2 hlen b1 b2 c1
    by_cases c2 : len ≤ side
    · exact joins_high a len cap zs a2 cap2 zs2 side fr to w h h2 hlen b1 b2 c1 c2
    obtain ⟨k, rfl⟩ : ∃ k : Nat, side = k := ⟨side.toNat, by omega⟩
    have hk : k < len := by omega
    cases hs : sameL (zs.set k (zs2.getD k 0)) zs2
    · exact joins_other a len cap zs a2 cap2 zs2 k fr to w h h2 hlen b1 b2 hk hs
    cases hr : rightS (zs.set k (zs.getD k 0 + zs2.getD k 0))
    · exact joins_big a len cap zs a2 cap2 zs2 k fr to w h h2 hlen b1 b2 hk hs hr
    · exact joins_ok a len cap zs a2 cap2 zs2 k fr to w h h2 hlen b1 b2 hk hs hr
  · exact joins_w3 a len cap zs a2 len2 cap2 zs2 side fr to w h h2 hlen hlen2 b1 b2 hne
end Go.Proofs.Ytieajkpjkhdjeaa
