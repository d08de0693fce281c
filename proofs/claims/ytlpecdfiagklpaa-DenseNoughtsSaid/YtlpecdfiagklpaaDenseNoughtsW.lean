/-
  The walk of the statement DenseNoughts.
-/
import Derived.Test.YtlpecdfiagklpaaAwake06
import Derived.Test.YtlpecdfiagklpaaDenseR
namespace Go.Proofs.Ytlpecdfiagklpaa
open Go.RowKit
set_option linter.unusedVariables false
set_option linter.unusedSimpArgs false

theorem mulF_nought (y : Int) : mulF 0 y = 0 := by rw [mulF_comm]; exact mulF_zero y
theorem dotF_left {a b : List Int} (h : ∀ x ∈ a, x = 0) : dotF a b = 0 := by
  unfold dotF
  induction a generalizing b with
  | nil => simp
  | cons x a ih =>
    cases b with
    | nil => simp
    | cons y b =>
      have hx := h x (by simp)
      subst hx
      simp only [List.zip_cons_cons, List.foldl_cons, mulF_nought]
      rw [show sat (0 + 0) = 0 by decide]
      exact ih (fun z hz => h z (by simp [hz]))
theorem dotF_right {a b : List Int} (h : ∀ x ∈ b, x = 0) : dotF a b = 0 := by
  unfold dotF
  induction a generalizing b with
  | nil => simp
  | cons x a ih =>
    cases b with
    | nil => simp
    | cons y b =>
      have hy := h y (by simp)
      subst hy
      simp only [List.zip_cons_cons, List.foldl_cons, mulF_zero]
      rw [show sat (0 + 0) = 0 by decide]
      exact ih (fun z hz => h z (by simp [hz]))
theorem zeros_mem {n : Nat} {x : Int} (h : x ∈ List.replicate n (0 : Int)) : x = 0 := (List.mem_replicate.1 h).2
theorem zeros_get (n k : Nat) : (List.replicate n (0 : Int)).getD k 0 = 0 := by
  by_cases h : k < n <;> simp [List.getD, h]
theorem goD_zeros {m n N : Nat} {bs xs : List Int} (hb : bs.length = m) (hf : Fits bs) : goD m n (List.replicate N 0) bs xs = bs := by
  refine List.ext_getElem (by rw [goD_length, hb]) (fun i h1 h2 => ?_)
  have e : (goD m n (List.replicate N 0) bs xs).getD i 0 = bs.getD i 0 := by
    rw [goD_get (by rw [← hb]; exact h2), dotF_left (a := rowD _ _ _) (fun x hx => by unfold rowD at hx; exact zeros_mem (List.mem_of_mem_drop (List.mem_of_mem_take hx))), Int.zero_add]
    exact sat_in _ (hf.getD i).1 (hf.getD i).2
  simpa [List.getD, List.getElem?_eq_getElem h1, List.getElem?_eq_getElem h2] using e
theorem backX_zeros1 (m n N : Nat) (gs : List Int) : ∀ x ∈ backX m n (List.replicate N 0) gs, x = 0 := by
  intro x hx
  unfold backX at hx
  obtain ⟨j, -, rfl⟩ := List.mem_map.1 hx
  refine dotF_left (fun y hy => ?_)
  unfold colD at hy
  obtain ⟨i, -, rfl⟩ := List.mem_map.1 hy
  exact zeros_get _ _
theorem backX_zeros2 (m n N : Nat) (ws : List Int) : ∀ x ∈ backX m n ws (List.replicate N 0), x = 0 := by
  intro x hx
  unfold backX at hx
  obtain ⟨j, -, rfl⟩ := List.mem_map.1 hx
  exact dotF_right (fun y hy => zeros_mem hy)
theorem backW_zeros (N : Nat) (xs : List Int) : ∀ x ∈ backW (List.replicate N 0) xs, x = 0 := by
  induction N with
  | zero => intro x hx; simp [backW] at hx
  | succ N ih =>
    intro x hx
    rw [List.replicate_succ, backW, List.mem_append] at hx
    rcases hx with hx | hx
    · obtain ⟨y, -, rfl⟩ := List.mem_map.1 hx
      exact mulF_nought y
    · exact ih x hx
theorem nought_at {l : List Int} (h : ∀ x ∈ l, x = 0) (k : Nat) : l.getD k 0 = 0 := by
  by_cases hk : k < l.length
  · rw [show l.getD k 0 = l[k] by simp [List.getD, List.getElem?_eq_getElem hk]]; exact h _ (List.getElem_mem hk)
  · simp [List.getD, List.getElem?_eq_none (show l.length ≤ k by omega)]
theorem row_cap {w : World} {K : Nat} {e : TypeId} {k : Nat} {A : Option Addr} {l cp n : Nat} {xs : List Value} (h : w.ownsRow K e k (.slice A l cp) n xs) (hn : 0 < n) : l ≤ cp ∧ cp ≤ 9223372036854775807 := by
  rcases h.2 with ⟨h2, h3⟩ | ⟨g, cap, cur, hv, -, -, h5, h6, -⟩
  · omega
  · simp only [Value.slice.injEq] at hv
    obtain ⟨-, rfl, rfl⟩ := hv
    unfold maxLen at h6
    exact ⟨h5, by omega⟩

set_option maxRecDepth 100000 in
set_option maxHeartbeats 16000000 in
theorem noughts_1 (W B x G : TV) (w : World) (hW : W.At w) (hB : B.At w) (hx : x.At w) (hG : G.At w) (hs : smallC W B x G = false) :
    Calls Try.prog 7 #[.agg #[.slice W.sa W.sl W.sc, .slice W.ca W.cl W.cc, .slice B.sa B.sl B.sc, .slice B.ca B.cl B.cc, .slice x.sa x.sl x.sc, .slice x.ca x.cl x.cc, .slice G.sa G.sl G.sc, .slice G.ca G.cl G.cc]] w fun e w' => e = .returned (.bool true) ∧ Below w.heap.size w w' := by
  obtain ⟨wA, hwA, J, z, -⟩ := case_box w (.slice W.sa W.sl W.sc) (.slice W.ca W.cl W.cc) (.slice B.sa B.sl B.sc) (.slice B.ca B.cl B.cc) (.slice x.sa x.sl x.sc) (.slice x.ca x.cl x.cc) (.slice G.sa G.sl G.sc) (.slice G.ca G.cl G.cc)
  have bb := Lib.hid (show Below w.heap.size w wA from z.out)
  have TW := Lib.hid (hW.kept z.out)
  have TB := Lib.hid (hB.kept z.out)
  have TX := Lib.hid (hx.kept z.out)
  have TG := Lib.hid (hG.kept z.out)
  have SM := small6_any W B x G wA
  rw [hs] at SM
  have SM' := Lib.hid SM
  clear SM hs hW hB hx hG
  obtain ⟨⟨j0, j1⟩, ⟨j2, j3⟩, ⟨j4, j5⟩, j6, j7⟩ := (J.out).see
  go_enter Try.func7, Try.ntmps7
  go_upto_region 1 with (fail)
  rw [hwA.out]
  go_wp2_with fail
  refine SM'.out.mono ?_
  rintro e w1 ⟨rfl, hb⟩
  clear j0 j1 j2 j3 j4 j5 j6 j7
  clear SM'
  replace J := Lib.hid (J.out.kept hb)
  replace TW := Lib.hid (TW.out.kept hb)
  replace TB := Lib.hid (TB.out.kept hb)
  replace TX := Lib.hid (TX.out.kept hb)
  replace TG := Lib.hid (TG.out.kept hb)
  replace bb := Lib.hid (bb.out.trans (hb.mono bb.out.size))
  clear hb
  go_wp2_with fail
  refine (awake06_any _).mono ?_
  rintro e w9 ⟨rfl, hb9⟩
  go_wp2_with fail
  go_ret
  exact ⟨rfl, bb.out.trans (hb9.mono bb.out.size)⟩

set_option maxRecDepth 100000 in
set_option maxHeartbeats 16000000 in
theorem noughts_2 (W B x G : TV) (w : World) (hW : W.At w) (hB : B.At w) (hx : x.At w) (hG : G.At w) (hs : smallC W B x G = true) (hF : fitT W.ss W.cl B.ss B.cl x.ss x.cl = false) :
    Calls Try.prog 7 #[.agg #[.slice W.sa W.sl W.sc, .slice W.ca W.cl W.cc, .slice B.sa B.sl B.sc, .slice B.ca B.cl B.cc, .slice x.sa x.sl x.sc, .slice x.ca x.cl x.cc, .slice G.sa G.sl G.sc, .slice G.ca G.cl G.cc]] w fun e w' => e = .returned (.bool true) ∧ Below w.heap.size w w' := by
  obtain ⟨wA, hwA, J, z, -⟩ := case_box w (.slice W.sa W.sl W.sc) (.slice W.ca W.cl W.cc) (.slice B.sa B.sl B.sc) (.slice B.ca B.cl B.cc) (.slice x.sa x.sl x.sc) (.slice x.ca x.cl x.cc) (.slice G.sa G.sl G.sc) (.slice G.ca G.cl G.cc)
  have bb := Lib.hid (show Below w.heap.size w wA from z.out)
  have TW := Lib.hid (hW.kept z.out)
  have TB := Lib.hid (hB.kept z.out)
  have TX := Lib.hid (hx.kept z.out)
  have TG := Lib.hid (hG.kept z.out)
  have SM := small6_any W B x G wA
  rw [hs] at SM
  have SM' := Lib.hid SM
  clear SM hs hW hB hx hG
  obtain ⟨⟨j0, j1⟩, ⟨j2, j3⟩, ⟨j4, j5⟩, j6, j7⟩ := (J.out).see
  go_enter Try.func7, Try.ntmps7
  go_upto_region 1 with (fail)
  rw [hwA.out]
  go_wp2_with fail
  refine SM'.out.mono ?_
  rintro e w1 ⟨rfl, hb⟩
  clear j0 j1 j2 j3 j4 j5 j6 j7
  clear SM'
  replace J := Lib.hid (J.out.kept hb)
  replace TW := Lib.hid (TW.out.kept hb)
  replace TB := Lib.hid (TB.out.kept hb)
  replace TX := Lib.hid (TX.out.kept hb)
  replace TG := Lib.hid (TG.out.kept hb)
  replace bb := Lib.hid (bb.out.trans (hb.mono bb.out.size))
  clear hb
  have FI := fits6_any W B x G w1 TW.out TB.out TX.out
  rw [hF] at FI
  have FI' := Lib.hid FI
  clear FI
  obtain ⟨⟨j0, j1⟩, ⟨j2, j3⟩, ⟨j4, j5⟩, j6, j7⟩ := (J.out).see
  go_wp2_with fail
  refine FI'.out.mono ?_
  rintro e w2 ⟨rfl, hb⟩
  clear j0 j1 j2 j3 j4 j5 j6 j7
  clear FI'
  replace J := Lib.hid (J.out.kept hb)
  replace TW := Lib.hid (TW.out.kept hb)
  replace TB := Lib.hid (TB.out.kept hb)
  replace TX := Lib.hid (TX.out.kept hb)
  replace TG := Lib.hid (TG.out.kept hb)
  replace bb := Lib.hid (bb.out.trans (hb.mono bb.out.size))
  clear hb
  go_wp2_with fail
  refine (awake06_any _).mono ?_
  rintro e w9 ⟨rfl, hb9⟩
  go_wp2_with fail
  go_ret
  exact ⟨rfl, bb.out.trans (hb9.mono bb.out.size)⟩

set_option maxRecDepth 100000 in
set_option maxHeartbeats 16000000 in
theorem noughts_3 (W B x G : TV) (w : World) (hW : W.At w) (hB : B.At w) (hx : x.At w) (hG : G.At w) (hs : smallC W B x G = true) (hF : fitT W.ss W.cl B.ss B.cl x.ss x.cl = true) (hR : rightT G.ss G.cl = false) :
    Calls Try.prog 7 #[.agg #[.slice W.sa W.sl W.sc, .slice W.ca W.cl W.cc, .slice B.sa B.sl B.sc, .slice B.ca B.cl B.cc, .slice x.sa x.sl x.sc, .slice x.ca x.cl x.cc, .slice G.sa G.sl G.sc, .slice G.ca G.cl G.cc]] w fun e w' => e = .returned (.bool true) ∧ Below w.heap.size w w' := by
  obtain ⟨wA, hwA, J, z, -⟩ := case_box w (.slice W.sa W.sl W.sc) (.slice W.ca W.cl W.cc) (.slice B.sa B.sl B.sc) (.slice B.ca B.cl B.cc) (.slice x.sa x.sl x.sc) (.slice x.ca x.cl x.cc) (.slice G.sa G.sl G.sc) (.slice G.ca G.cl G.cc)
  have bb := Lib.hid (show Below w.heap.size w wA from z.out)
  have TW := Lib.hid (hW.kept z.out)
  have TB := Lib.hid (hB.kept z.out)
  have TX := Lib.hid (hx.kept z.out)
  have TG := Lib.hid (hG.kept z.out)
  have SM := small6_any W B x G wA
  rw [hs] at SM
  have SM' := Lib.hid SM
  clear SM hs hW hB hx hG
  obtain ⟨⟨j0, j1⟩, ⟨j2, j3⟩, ⟨j4, j5⟩, j6, j7⟩ := (J.out).see
  go_enter Try.func7, Try.ntmps7
  go_upto_region 1 with (fail)
  rw [hwA.out]
  go_wp2_with fail
  refine SM'.out.mono ?_
  rintro e w1 ⟨rfl, hb⟩
  clear j0 j1 j2 j3 j4 j5 j6 j7
  clear SM'
  replace J := Lib.hid (J.out.kept hb)
  replace TW := Lib.hid (TW.out.kept hb)
  replace TB := Lib.hid (TB.out.kept hb)
  replace TX := Lib.hid (TX.out.kept hb)
  replace TG := Lib.hid (TG.out.kept hb)
  replace bb := Lib.hid (bb.out.trans (hb.mono bb.out.size))
  clear hb
  have FI := fits6_any W B x G w1 TW.out TB.out TX.out
  rw [hF] at FI
  have FI' := Lib.hid FI
  clear FI
  obtain ⟨⟨j0, j1⟩, ⟨j2, j3⟩, ⟨j4, j5⟩, j6, j7⟩ := (J.out).see
  go_wp2_with fail
  refine FI'.out.mono ?_
  rintro e w2 ⟨rfl, hb⟩
  clear j0 j1 j2 j3 j4 j5 j6 j7
  clear FI'
  replace J := Lib.hid (J.out.kept hb)
  replace TW := Lib.hid (TW.out.kept hb)
  replace TB := Lib.hid (TB.out.kept hb)
  replace TX := Lib.hid (TX.out.kept hb)
  replace TG := Lib.hid (TG.out.kept hb)
  replace bb := Lib.hid (bb.out.trans (hb.mono bb.out.size))
  clear hb
  have RG := rright_any G.sa G.sl G.sc G.ss G.ca G.cl G.cc w2 TG.out.1 (by have := TG.out.2.2.2; omega)
  rw [hR] at RG
  have RG' := Lib.hid RG
  clear RG
  obtain ⟨⟨j0, j1⟩, ⟨j2, j3⟩, ⟨j4, j5⟩, j6, j7⟩ := (J.out).see
  go_wp2_with fail
  refine RG'.out.mono ?_
  rintro e w3 ⟨rfl, hb⟩
  clear j0 j1 j2 j3 j4 j5 j6 j7
  clear RG'
  replace J := Lib.hid (J.out.kept hb)
  replace TW := Lib.hid (TW.out.kept hb)
  replace TB := Lib.hid (TB.out.kept hb)
  replace TX := Lib.hid (TX.out.kept hb)
  replace TG := Lib.hid (TG.out.kept hb)
  replace bb := Lib.hid (bb.out.trans (hb.mono bb.out.size))
  clear hb
  go_wp2_with fail
  refine (awake06_any _).mono ?_
  rintro e w9 ⟨rfl, hb9⟩
  go_wp2_with fail
  go_ret
  exact ⟨rfl, bb.out.trans (hb9.mono bb.out.size)⟩

set_option maxRecDepth 100000 in
set_option maxHeartbeats 16000000 in
theorem noughts_4 (W B x G : TV) (w : World) (hW : W.At w) (hB : B.At w) (hx : x.At w) (hG : G.At w) (hs : smallC W B x G = true) (hF : fitT W.ss W.cl B.ss B.cl x.ss x.cl = true) (hR : rightT G.ss G.cl = true) (hS : sameL G.ss B.ss = false) :
    Calls Try.prog 7 #[.agg #[.slice W.sa W.sl W.sc, .slice W.ca W.cl W.cc, .slice B.sa B.sl B.sc, .slice B.ca B.cl B.cc, .slice x.sa x.sl x.sc, .slice x.ca x.cl x.cc, .slice G.sa G.sl G.sc, .slice G.ca G.cl G.cc]] w fun e w' => e = .returned (.bool true) ∧ Below w.heap.size w w' := by
  obtain ⟨wA, hwA, J, z, -⟩ := case_box w (.slice W.sa W.sl W.sc) (.slice W.ca W.cl W.cc) (.slice B.sa B.sl B.sc) (.slice B.ca B.cl B.cc) (.slice x.sa x.sl x.sc) (.slice x.ca x.cl x.cc) (.slice G.sa G.sl G.sc) (.slice G.ca G.cl G.cc)
  have bb := Lib.hid (show Below w.heap.size w wA from z.out)
  have TW := Lib.hid (hW.kept z.out)
  have TB := Lib.hid (hB.kept z.out)
  have TX := Lib.hid (hx.kept z.out)
  have TG := Lib.hid (hG.kept z.out)
  have SM := small6_any W B x G wA
  rw [hs] at SM
  have SM' := Lib.hid SM
  clear SM hs hW hB hx hG
  obtain ⟨⟨j0, j1⟩, ⟨j2, j3⟩, ⟨j4, j5⟩, j6, j7⟩ := (J.out).see
  go_enter Try.func7, Try.ntmps7
  go_upto_region 1 with (fail)
  rw [hwA.out]
  go_wp2_with fail
  refine SM'.out.mono ?_
  rintro e w1 ⟨rfl, hb⟩
  clear j0 j1 j2 j3 j4 j5 j6 j7
  clear SM'
  replace J := Lib.hid (J.out.kept hb)
  replace TW := Lib.hid (TW.out.kept hb)
  replace TB := Lib.hid (TB.out.kept hb)
  replace TX := Lib.hid (TX.out.kept hb)
  replace TG := Lib.hid (TG.out.kept hb)
  replace bb := Lib.hid (bb.out.trans (hb.mono bb.out.size))
  clear hb
  have FI := fits6_any W B x G w1 TW.out TB.out TX.out
  rw [hF] at FI
  have FI' := Lib.hid FI
  clear FI
  obtain ⟨⟨j0, j1⟩, ⟨j2, j3⟩, ⟨j4, j5⟩, j6, j7⟩ := (J.out).see
  go_wp2_with fail
  refine FI'.out.mono ?_
  rintro e w2 ⟨rfl, hb⟩
  clear j0 j1 j2 j3 j4 j5 j6 j7
  clear FI'
  replace J := Lib.hid (J.out.kept hb)
  replace TW := Lib.hid (TW.out.kept hb)
  replace TB := Lib.hid (TB.out.kept hb)
  replace TX := Lib.hid (TX.out.kept hb)
  replace TG := Lib.hid (TG.out.kept hb)
  replace bb := Lib.hid (bb.out.trans (hb.mono bb.out.size))
  clear hb
  have RG := rright_any G.sa G.sl G.sc G.ss G.ca G.cl G.cc w2 TG.out.1 (by have := TG.out.2.2.2; omega)
  rw [hR] at RG
  have RG' := Lib.hid RG
  clear RG
  obtain ⟨⟨j0, j1⟩, ⟨j2, j3⟩, ⟨j4, j5⟩, j6, j7⟩ := (J.out).see
  go_wp2_with fail
  refine RG'.out.mono ?_
  rintro e w3 ⟨rfl, hb⟩
  clear j0 j1 j2 j3 j4 j5 j6 j7
  clear RG'
  replace J := Lib.hid (J.out.kept hb)
  replace TW := Lib.hid (TW.out.kept hb)
  replace TB := Lib.hid (TB.out.kept hb)
  replace TX := Lib.hid (TX.out.kept hb)
  replace TG := Lib.hid (TG.out.kept hb)
  replace bb := Lib.hid (bb.out.trans (hb.mono bb.out.size))
  clear hb
  have SG := same_any G.sa G.sl G.sc G.ss B.sa B.sl B.sc B.ss w3 TG.out.1 TB.out.1
  rw [hS] at SG
  have SG' := Lib.hid SG
  clear SG
  obtain ⟨⟨j0, j1⟩, ⟨j2, j3⟩, ⟨j4, j5⟩, j6, j7⟩ := (J.out).see
  go_wp2_with fail
  refine SG'.out.mono ?_
  rintro e w4' ⟨rfl, nq, rfl⟩
  obtain ⟨w4, hw4⟩ : ∃ w4, w3.drewN nq = w4 := ⟨_, rfl⟩
  have hb : Below w3.heap.size w3 w4 := by rw [← hw4]; exact below_drewN' (Below.refl _ _) nq
  rw [hw4]
  clear j0 j1 j2 j3 j4 j5 j6 j7
  clear SG' hw4
  replace J := Lib.hid (J.out.kept hb)
  replace TW := Lib.hid (TW.out.kept hb)
  replace TB := Lib.hid (TB.out.kept hb)
  replace TX := Lib.hid (TX.out.kept hb)
  replace TG := Lib.hid (TG.out.kept hb)
  replace bb := Lib.hid (bb.out.trans (hb.mono bb.out.size))
  clear hb
  go_wp2_with fail
  refine (awake06_any _).mono ?_
  rintro e w9 ⟨rfl, hb9⟩
  go_wp2_with fail
  go_ret
  exact ⟨rfl, bb.out.trans (hb9.mono bb.out.size)⟩

set_option maxRecDepth 100000 in
set_option maxHeartbeats 16000000 in
theorem noughts_5 (W B x G : TV) (w : World) (hW : W.At w) (hB : B.At w) (hx : x.At w) (hG : G.At w) (hWc : W.Cap) (hs : smallC W B x G = true) (hF : fitT W.ss W.cl B.ss B.cl x.ss x.cl = true) (hR : rightT G.ss G.cl = true) (hS : sameL G.ss B.ss = true) :
    Calls Try.prog 7 #[.agg #[.slice W.sa W.sl W.sc, .slice W.ca W.cl W.cc, .slice B.sa B.sl B.sc, .slice B.ca B.cl B.cc, .slice x.sa x.sl x.sc, .slice x.ca x.cl x.cc, .slice G.sa G.sl G.sc, .slice G.ca G.cl G.cc]] w fun e w' => e = .returned (.bool true) ∧ Below w.heap.size w w' := by
  obtain ⟨wA, hwA, J, z, -⟩ := case_box w (.slice W.sa W.sl W.sc) (.slice W.ca W.cl W.cc) (.slice B.sa B.sl B.sc) (.slice B.ca B.cl B.cc) (.slice x.sa x.sl x.sc) (.slice x.ca x.cl x.cc) (.slice G.sa G.sl G.sc) (.slice G.ca G.cl G.cc)
  have bb := Lib.hid (show Below w.heap.size w wA from z.out)
  have TW := Lib.hid (hW.kept z.out)
  have TB := Lib.hid (hB.kept z.out)
  have TX := Lib.hid (hx.kept z.out)
  have TG := Lib.hid (hG.kept z.out)
  have SM := small6_any W B x G wA
  obtain ⟨s1, s2, s3, s4, s5, s6, s7, s8⟩ := smallC_parts hs
  obtain ⟨p1, p2, p3, p4, p5, p6, p7, p8, p9, p10, p11⟩ := fitT_facts hF
  have hGB : G.cl = B.cl := by
    have h1 := (rightT_parts hR).2
    have h2 := (rightT_parts p9).2
    rw [sameL_eq hS] at h1
    omega
  have hO : outT (W.ss.getD 0 0) G.ss G.cl = true := by
    unfold outT
    rw [hR, sameL_eq hS, p2, p1]
    simp [sameL]
  have hBl := hB.2.1.1
  have hBf := hB.2.1.2.2.1
  have hXl := hx.2.1.1
  have hGl := hG.2.1.1
  have hW1 : 0 < W.cl := rightT_pos p8
  have hG1 : 0 < G.cl := rightT_pos hR
  have hfW := Lib.hid hW.1.2.2.1
  have hfG := Lib.hid hG.1.2.2.1
  replace hGB := Lib.hid hGB
  replace p3 := Lib.hid p3
  replace hBl := Lib.hid hBl
  replace hXl := Lib.hid hXl
  replace hGl := Lib.hid hGl
  clear p1 p2
  rw [hs] at SM
  have SM' := Lib.hid SM
  clear SM hs hW hB hx hG
  obtain ⟨⟨j0, j1⟩, ⟨j2, j3⟩, ⟨j4, j5⟩, j6, j7⟩ := (J.out).see
  go_enter Try.func7, Try.ntmps7
  go_upto_region 1 with (fail)
  rw [hwA.out]
  go_wp2_with fail
  refine SM'.out.mono ?_
  rintro e w1 ⟨rfl, hb⟩
  clear j0 j1 j2 j3 j4 j5 j6 j7
  clear SM'
  replace J := Lib.hid (J.out.kept hb)
  replace TW := Lib.hid (TW.out.kept hb)
  replace TB := Lib.hid (TB.out.kept hb)
  replace TX := Lib.hid (TX.out.kept hb)
  replace TG := Lib.hid (TG.out.kept hb)
  replace bb := Lib.hid (bb.out.trans (hb.mono bb.out.size))
  clear hb
  have FI := fits6_any W B x G w1 TW.out TB.out TX.out
  rw [hF] at FI
  have FI' := Lib.hid FI
  clear FI
  obtain ⟨⟨j0, j1⟩, ⟨j2, j3⟩, ⟨j4, j5⟩, j6, j7⟩ := (J.out).see
  go_wp2_with fail
  refine FI'.out.mono ?_
  rintro e w2 ⟨rfl, hb⟩
  clear j0 j1 j2 j3 j4 j5 j6 j7
  clear FI'
  replace J := Lib.hid (J.out.kept hb)
  replace TW := Lib.hid (TW.out.kept hb)
  replace TB := Lib.hid (TB.out.kept hb)
  replace TX := Lib.hid (TX.out.kept hb)
  replace TG := Lib.hid (TG.out.kept hb)
  replace bb := Lib.hid (bb.out.trans (hb.mono bb.out.size))
  clear hb
  have RG := rright_any G.sa G.sl G.sc G.ss G.ca G.cl G.cc w2 TG.out.1 (by have := TG.out.2.2.2; omega)
  rw [hR] at RG
  have RG' := Lib.hid RG
  clear RG
  obtain ⟨⟨j0, j1⟩, ⟨j2, j3⟩, ⟨j4, j5⟩, j6, j7⟩ := (J.out).see
  go_wp2_with fail
  refine RG'.out.mono ?_
  rintro e w3 ⟨rfl, hb⟩
  clear j0 j1 j2 j3 j4 j5 j6 j7
  clear RG'
  replace J := Lib.hid (J.out.kept hb)
  replace TW := Lib.hid (TW.out.kept hb)
  replace TB := Lib.hid (TB.out.kept hb)
  replace TX := Lib.hid (TX.out.kept hb)
  replace TG := Lib.hid (TG.out.kept hb)
  replace bb := Lib.hid (bb.out.trans (hb.mono bb.out.size))
  clear hb
  have SG := same_any G.sa G.sl G.sc G.ss B.sa B.sl B.sc B.ss w3 TG.out.1 TB.out.1
  rw [hS] at SG
  have SG' := Lib.hid SG
  clear SG
  obtain ⟨⟨j0, j1⟩, ⟨j2, j3⟩, ⟨j4, j5⟩, j6, j7⟩ := (J.out).see
  go_wp2_with fail
  refine SG'.out.mono ?_
  rintro e w4' ⟨rfl, nq, rfl⟩
  obtain ⟨w4, hw4⟩ : ∃ w4, w3.drewN nq = w4 := ⟨_, rfl⟩
  have hb : Below w3.heap.size w3 w4 := by rw [← hw4]; exact below_drewN' (Below.refl _ _) nq
  rw [hw4]
  clear j0 j1 j2 j3 j4 j5 j6 j7
  clear SG' hw4
  replace J := Lib.hid (J.out.kept hb)
  replace TW := Lib.hid (TW.out.kept hb)
  replace TB := Lib.hid (TB.out.kept hb)
  replace TX := Lib.hid (TX.out.kept hb)
  replace TG := Lib.hid (TG.out.kept hb)
  replace bb := Lib.hid (bb.out.trans (hb.mono bb.out.size))
  clear hb
  have M1 := Lib.hid (make_ok W.sa W.sl W.sc W.ss 0 w4 TW.out.1 (rightT_parts p8).1 W.cl (rightT_parts p8).2.symm)
  obtain ⟨⟨j0, j1⟩, ⟨j2, j3⟩, ⟨j4, j5⟩, j6, j7⟩ := (J.out).see
  go_wp2_with fail
  refine M1.out.mono ?_
  rintro e w5 ⟨v', rfl, A0, c0, A0', c0', rfl, o1, o2, -, hb⟩
  have cap0 := row_cap o2 hW1
  have T0 := Lib.hid (show TV.At ⟨A0, W.sl, c0, W.ss, A0', W.cl, c0', List.replicate W.cl 0⟩ w5 from ⟨row_ints o1 (show W.sl ≤ 9223372036854775807 by omega) hfW.out, row_ints o2 (show W.cl ≤ 9223372036854775807 by omega) (replicate_fits _), by show W.sl ≤ 17592186044416; omega, by show W.cl ≤ 17592186044416; omega⟩)
  clear j0 j1 j2 j3 j4 j5 j6 j7
  clear M1 o1 o2
  replace J := Lib.hid (J.out.kept hb)
  replace TW := Lib.hid (TW.out.kept hb)
  replace TB := Lib.hid (TB.out.kept hb)
  replace TX := Lib.hid (TX.out.kept hb)
  replace TG := Lib.hid (TG.out.kept hb)
  replace bb := Lib.hid (bb.out.trans (hb.mono bb.out.size))
  clear hb
  obtain ⟨w6, hwN, JW, zN, -⟩ := grid_box w5 (.slice A0 W.sl c0) (.slice A0' W.cl c0')
  have hb := zN.out
  go_upto_region 4 with (fail)
  rw [hwN.out]
  replace J := Lib.hid (J.out.kept hb)
  replace TW := Lib.hid (TW.out.kept hb)
  replace TB := Lib.hid (TB.out.kept hb)
  replace TX := Lib.hid (TX.out.kept hb)
  replace TG := Lib.hid (TG.out.kept hb)
  replace T0 := Lib.hid (T0.out.kept hb)
  replace bb := Lib.hid (bb.out.trans (hb.mono bb.out.size))
  clear hb
  clear zN hwN
  have M2 := Lib.hid (make_ok G.sa G.sl G.sc G.ss 0 w6 TG.out.1 (rightT_parts hR).1 G.cl (rightT_parts hR).2.symm)
  obtain ⟨⟨j0, j1⟩, ⟨j2, j3⟩, ⟨j4, j5⟩, j6, j7⟩ := (J.out).see
  go_wp2_with fail
  refine M2.out.mono ?_
  rintro e w7 ⟨v', rfl, A1, c1, A1', c1', rfl, o1, o2, -, hb⟩
  have T1 := Lib.hid (show TV.At ⟨A1, G.sl, c1, G.ss, A1', G.cl, c1', List.replicate G.cl 0⟩ w7 from ⟨row_ints o1 (show G.sl ≤ 9223372036854775807 by omega) hfG.out, row_ints o2 (show G.cl ≤ 9223372036854775807 by omega) (replicate_fits _), by show G.sl ≤ 17592186044416; omega, by show G.cl ≤ 17592186044416; omega⟩)
  clear j0 j1 j2 j3 j4 j5 j6 j7
  clear M2 o1 o2
  replace J := Lib.hid (J.out.kept hb)
  replace TW := Lib.hid (TW.out.kept hb)
  replace TB := Lib.hid (TB.out.kept hb)
  replace TX := Lib.hid (TX.out.kept hb)
  replace TG := Lib.hid (TG.out.kept hb)
  replace T0 := Lib.hid (T0.out.kept hb)
  replace JW := Lib.hid (JW.out.kept hb)
  replace bb := Lib.hid (bb.out.trans (hb.mono bb.out.size))
  clear hb
  obtain ⟨w8, hwN, JG, zN, -⟩ := grid_box w7 (.slice A1 G.sl c1) (.slice A1' G.cl c1')
  have hb := zN.out
  go_upto_region 5 with (fail)
  rw [hwN.out]
  replace J := Lib.hid (J.out.kept hb)
  replace TW := Lib.hid (TW.out.kept hb)
  replace TB := Lib.hid (TB.out.kept hb)
  replace TX := Lib.hid (TX.out.kept hb)
  replace TG := Lib.hid (TG.out.kept hb)
  replace T0 := Lib.hid (T0.out.kept hb)
  replace JW := Lib.hid (JW.out.kept hb)
  replace T1 := Lib.hid (T1.out.kept hb)
  replace bb := Lib.hid (bb.out.trans (hb.mono bb.out.size))
  clear hb
  clear zN hwN
  have M3 := dgo_ok ⟨A0, W.sl, c0, W.ss, A0', W.cl, c0', List.replicate W.cl 0⟩ B x w8 T0.out TB.out TX.out cap0 hF (by omega)
  have eGo : goD B.cl x.cl (List.replicate W.cl 0) B.cs x.cs = B.cs := goD_zeros hBl.out hBf
  rw [eGo] at M3
  have M3' := Lib.hid M3
  clear M3 eGo
  obtain ⟨⟨j0, j1⟩, ⟨j2, j3⟩, ⟨j4, j5⟩, j6, j7⟩ := (J.out).see
  obtain ⟨q0, q1, -, -⟩ := JW.out.see
  go_wp2_with fail
  refine M3'.out.mono ?_
  rintro e w9 ⟨v', rfl, Y, yc, Y', yc', rfl, o1, o2, -, hb⟩
  have TY := Lib.hid (show TV.At ⟨Y, B.sl, yc, B.ss, Y', B.cl, yc', B.cs⟩ w9 from ⟨row_ints o1 (show B.sl ≤ 9223372036854775807 by omega) (TB.out.1.2.2.1), row_ints o2 (show B.cl ≤ 9223372036854775807 by omega) hBf, by show B.sl ≤ 17592186044416; omega, by show B.cl ≤ 17592186044416; omega⟩)
  clear j0 j1 j2 j3 j4 j5 j6 j7
  clear M3' o1 o2 q0 q1
  replace J := Lib.hid (J.out.kept hb)
  replace TW := Lib.hid (TW.out.kept hb)
  replace TB := Lib.hid (TB.out.kept hb)
  replace TX := Lib.hid (TX.out.kept hb)
  replace TG := Lib.hid (TG.out.kept hb)
  replace T0 := Lib.hid (T0.out.kept hb)
  replace JW := Lib.hid (JW.out.kept hb)
  replace T1 := Lib.hid (T1.out.kept hb)
  replace JG := Lib.hid (JG.out.kept hb)
  replace bb := Lib.hid (bb.out.trans (hb.mono bb.out.size))
  clear hb
  obtain ⟨w10, hwN, JY, zN, -⟩ := grid_box w9 (.slice Y B.sl yc) (.slice Y' B.cl yc')
  have hb := zN.out
  go_upto_region 6 with (fail)
  rw [hwN.out]
  replace J := Lib.hid (J.out.kept hb)
  replace TW := Lib.hid (TW.out.kept hb)
  replace TB := Lib.hid (TB.out.kept hb)
  replace TX := Lib.hid (TX.out.kept hb)
  replace TG := Lib.hid (TG.out.kept hb)
  replace T0 := Lib.hid (T0.out.kept hb)
  replace JW := Lib.hid (JW.out.kept hb)
  replace T1 := Lib.hid (T1.out.kept hb)
  replace JG := Lib.hid (JG.out.kept hb)
  replace TY := Lib.hid (TY.out.kept hb)
  replace bb := Lib.hid (bb.out.trans (hb.mono bb.out.size))
  clear hb
  clear zN hwN
  have MB := Lib.hid (dback_ok ⟨A0, W.sl, c0, W.ss, A0', W.cl, c0', List.replicate W.cl 0⟩ B x G w10 T0.out TB.out TX.out TG.out cap0 hF hO (by show W.cl ≤ 1000; omega) (by omega) (by omega))
  obtain ⟨⟨j0, j1⟩, ⟨j2, j3⟩, ⟨j4, j5⟩, j6, j7⟩ := (J.out).see
  obtain ⟨q0, q1, -, -⟩ := JW.out.see
  go_wp2_with fail
  refine MB.out.mono ?_
  rintro e w11 ⟨⟨aasa, aasl, aasc, aass, aaca, aacl, aacc, aacs⟩, ⟨absa, absl, absc, abss, abca, abcl, abcc, abcs⟩, ⟨acsa, acsl, acsc, acss, acca, accl, accc, accs⟩, rfl, hga, hgb, hgc, ⟨ea1, ea2⟩, ⟨eb1, eb2⟩, ⟨ec1, ec2⟩, hb⟩
  dsimp only at ea1 ea2 eb1 eb2 ec1 ec2
  subst ea1 ea2 eb1 eb2 ec1 ec2
  obtain rfl : accl = x.cl := by have := hgc.2.1.1; dsimp only at this; rw [backX_length] at this; exact this.symm
  have TA := Lib.hid (hgc.2.1)
  dsimp only at TA
  have ZA := Lib.hid (backX_zeros1 B.cl x.cl W.cl G.cs)
  clear j0 j1 j2 j3 j4 j5 j6 j7
  clear MB q0 q1 hga hgb hgc
  replace J := Lib.hid (J.out.kept hb)
  replace TW := Lib.hid (TW.out.kept hb)
  replace TB := Lib.hid (TB.out.kept hb)
  replace TX := Lib.hid (TX.out.kept hb)
  replace TG := Lib.hid (TG.out.kept hb)
  replace T0 := Lib.hid (T0.out.kept hb)
  replace JW := Lib.hid (JW.out.kept hb)
  replace T1 := Lib.hid (T1.out.kept hb)
  replace JG := Lib.hid (JG.out.kept hb)
  replace TY := Lib.hid (TY.out.kept hb)
  replace JY := Lib.hid (JY.out.kept hb)
  replace bb := Lib.hid (bb.out.trans (hb.mono bb.out.size))
  clear hb
  obtain ⟨w12, hwN, JA, zN, -⟩ := grads_box w11 (.slice aasa aasl aasc) (.slice aaca aacl aacc) (.slice absa absl absc) (.slice abca abcl abcc) (.slice acsa acsl acsc) (.slice acca x.cl accc)
  have hb := zN.out
  go_upto_region 7 with (fail)
  rw [hwN.out]
  replace J := Lib.hid (J.out.kept hb)
  replace TW := Lib.hid (TW.out.kept hb)
  replace TB := Lib.hid (TB.out.kept hb)
  replace TX := Lib.hid (TX.out.kept hb)
  replace TG := Lib.hid (TG.out.kept hb)
  replace T0 := Lib.hid (T0.out.kept hb)
  replace JW := Lib.hid (JW.out.kept hb)
  replace T1 := Lib.hid (T1.out.kept hb)
  replace JG := Lib.hid (JG.out.kept hb)
  replace TY := Lib.hid (TY.out.kept hb)
  replace JY := Lib.hid (JY.out.kept hb)
  replace TA := Lib.hid (TA.out.kept hb)
  replace bb := Lib.hid (bb.out.trans (hb.mono bb.out.size))
  clear hb
  clear zN hwN
  have MB := Lib.hid (dback_ok W B x ⟨A1, G.sl, c1, G.ss, A1', G.cl, c1', List.replicate G.cl 0⟩ w12 TW.out TB.out TX.out T1.out hWc hF hO (by show W.cl ≤ 1000; omega) (by omega) (by omega))
  obtain ⟨⟨j0, j1⟩, ⟨j2, j3⟩, ⟨j4, j5⟩, j6, j7⟩ := (J.out).see
  obtain ⟨q0, q1, -, -⟩ := JG.out.see
  go_wp2_with fail
  refine MB.out.mono ?_
  rintro e w13 ⟨⟨basa, basl, basc, bass, baca, bacl, bacc, bacs⟩, ⟨bbsa, bbsl, bbsc, bbss, bbca, bbcl, bbcc, bbcs⟩, ⟨bcsa, bcsl, bcsc, bcss, bcca, bccl, bccc, bccs⟩, rfl, hga, hgb, hgc, ⟨ea1, ea2⟩, ⟨eb1, eb2⟩, ⟨ec1, ec2⟩, hb⟩
  dsimp only at ea1 ea2 eb1 eb2 ec1 ec2
  subst ea1 ea2 eb1 eb2 ec1 ec2
  obtain rfl : bccl = x.cl := by have := hgc.2.1.1; dsimp only at this; rw [backX_length] at this; exact this.symm
  obtain rfl : bacl = W.cl := by have := hga.2.1.1; dsimp only at this; rw [backW_length, List.length_replicate, hXl.out, hGB.out, ← p3.out] at this; exact this.symm
  have TBa := Lib.hid (hga.2.1)
  have TBc := Lib.hid (hgc.2.1)
  dsimp only at TBa TBc
  have ZBa := Lib.hid (backW_zeros G.cl x.cs)
  have ZBc := Lib.hid (backX_zeros2 B.cl x.cl G.cl W.cs)
  clear j0 j1 j2 j3 j4 j5 j6 j7
  clear MB q0 q1 hga hgb hgc
  replace J := Lib.hid (J.out.kept hb)
  replace TW := Lib.hid (TW.out.kept hb)
  replace TB := Lib.hid (TB.out.kept hb)
  replace TX := Lib.hid (TX.out.kept hb)
  replace TG := Lib.hid (TG.out.kept hb)
  replace T0 := Lib.hid (T0.out.kept hb)
  replace JW := Lib.hid (JW.out.kept hb)
  replace T1 := Lib.hid (T1.out.kept hb)
  replace JG := Lib.hid (JG.out.kept hb)
  replace TY := Lib.hid (TY.out.kept hb)
  replace JY := Lib.hid (JY.out.kept hb)
  replace TA := Lib.hid (TA.out.kept hb)
  replace JA := Lib.hid (JA.out.kept hb)
  replace bb := Lib.hid (bb.out.trans (hb.mono bb.out.size))
  clear hb
  obtain ⟨w14, hwN, JB, zN, -⟩ := grads_box w13 (.slice basa basl basc) (.slice baca W.cl bacc) (.slice bbsa bbsl bbsc) (.slice bbca bbcl bbcc) (.slice bcsa bcsl bcsc) (.slice bcca x.cl bccc)
  have hb := zN.out
  go_upto_region 8 with (fail)
  rw [hwN.out]
  replace J := Lib.hid (J.out.kept hb)
  replace TW := Lib.hid (TW.out.kept hb)
  replace TB := Lib.hid (TB.out.kept hb)
  replace TX := Lib.hid (TX.out.kept hb)
  replace TG := Lib.hid (TG.out.kept hb)
  replace T0 := Lib.hid (T0.out.kept hb)
  replace JW := Lib.hid (JW.out.kept hb)
  replace T1 := Lib.hid (T1.out.kept hb)
  replace JG := Lib.hid (JG.out.kept hb)
  replace TY := Lib.hid (TY.out.kept hb)
  replace JY := Lib.hid (JY.out.kept hb)
  replace TA := Lib.hid (TA.out.kept hb)
  replace JA := Lib.hid (JA.out.kept hb)
  replace TBa := Lib.hid (TBa.out.kept hb)
  replace TBc := Lib.hid (TBc.out.kept hb)
  replace bb := Lib.hid (bb.out.trans (hb.mono bb.out.size))
  clear hb
  clear zN hwN
  have EQ := tequal_any Y B.sl yc B.ss Y' B.cl yc' B.cs B.sa B.sl B.sc B.ss B.ca B.cl B.cc B.cs w14 TY.out.1 TY.out.2.1 TB.out.1 TB.out.2.1
  rw [show sameT B.ss B.cs B.ss B.cs = true by simp [sameT, sameL]] at EQ
  have EQ' := Lib.hid EQ
  clear EQ
  obtain ⟨⟨j0, j1⟩, ⟨j2, j3⟩, ⟨j4, j5⟩, j6, j7⟩ := (J.out).see
  obtain ⟨q0, q1, -, -⟩ := JY.out.see
  go_wp2_with fail
  refine EQ'.out.mono ?_
  rintro e w15 ⟨rfl, hb⟩
  clear j0 j1 j2 j3 j4 j5 j6 j7
  clear EQ' q0 q1
  replace J := Lib.hid (J.out.kept hb)
  replace TW := Lib.hid (TW.out.kept hb)
  replace TB := Lib.hid (TB.out.kept hb)
  replace TX := Lib.hid (TX.out.kept hb)
  replace TG := Lib.hid (TG.out.kept hb)
  replace T0 := Lib.hid (T0.out.kept hb)
  replace JW := Lib.hid (JW.out.kept hb)
  replace T1 := Lib.hid (T1.out.kept hb)
  replace JG := Lib.hid (JG.out.kept hb)
  replace TY := Lib.hid (TY.out.kept hb)
  replace JY := Lib.hid (JY.out.kept hb)
  replace TA := Lib.hid (TA.out.kept hb)
  replace JA := Lib.hid (JA.out.kept hb)
  replace TBa := Lib.hid (TBa.out.kept hb)
  replace TBc := Lib.hid (TBc.out.kept hb)
  replace JB := Lib.hid (JB.out.kept hb)
  replace bb := Lib.hid (bb.out.trans (hb.mono bb.out.size))
  clear hb
  obtain ⟨-, -, -, -, -, a5⟩ := JA.out.see
  obtain ⟨-, b1, -, -, -, b5⟩ := JB.out.see
  obtain ⟨⟨j0, j1⟩, ⟨j2, j3⟩, ⟨j4, j5⟩, j6, j7⟩ := (J.out).see
  have W15 := Lib.hid bb.out
  have lW : W.cl ≤ 400 := s1
  have lX : x.cl ≤ 100 := s3
  have NA := Lib.hid (fun k (hk : k < x.cl) => (by
    rcases TA.out.2.2.2 with h4 | ⟨b, off, ha, hc⟩
    · omega
    · exact ⟨b, off, ha, by rw [hc k hk, nought_at ZA.out]⟩ : ∃ b off, acca = some ⟨b, off, none⟩ ∧ w15.cell? ⟨b, off + k, none⟩ = some (.int .i64 0)))
  have NB := Lib.hid (fun k (hk : k < W.cl) => (by
    rcases TBa.out.2.2.2 with h4 | ⟨b, off, ha, hc⟩
    · omega
    · exact ⟨b, off, ha, by rw [hc k hk, nought_at ZBa.out]⟩ : ∃ b off, baca = some ⟨b, off, none⟩ ∧ w15.cell? ⟨b, off + k, none⟩ = some (.int .i64 0)))
  have NC := Lib.hid (fun k (hk : k < x.cl) => (by
    rcases TBc.out.2.2.2 with h4 | ⟨b, off, ha, hc⟩
    · omega
    · exact ⟨b, off, ha, by rw [hc k hk, nought_at ZBc.out]⟩ : ∃ b off, bcca = some ⟨b, off, none⟩ ∧ w15.cell? ⟨b, off + k, none⟩ = some (.int .i64 0)))
  clear s1 s2 s3 s4 s5 s6 s7 s8 p3 p4 p5 p6 p7 p8 p9 p10 p11 hGB hO hBl hBf hXl hGl hF hR hS hWc cap0 hG1 hW1
  go_wp2_with fail
  clear j0 j1 j2 j3 j4 j5 j6 j7
  clear a5 b1 b5
  go_loopw [136] (fun q wr => ∃ k : Nat, k ≤ 3 ∧ q = .int .i64 k ∧ wr = w15) (fun q _ => 3 - (intOf q).toNat)
  case atStart => exact ⟨0, Nat.zero_le _, rfl, rfl⟩
  case round =>
    obtain ⟨k, hk, rfl, rfl⟩ := hrel
    have hk4 : k = 0 ∨ k = 1 ∨ k = 2 ∨ k = 3 := by omega
    rcases hk4 with rfl | rfl | rfl | rfl
    · have ix : ∀ w, (Instr.index 53 (.agg #[.slice acca x.cl accc, .slice baca W.cl bacc, .slice bcca x.cl bccc]) (.int .i64 0)).run Try.prog w = .ok (.slice acca x.cl accc) w := fun _ => by kernel_rfl
      go_wp2_with fail
      go_loopw [141] (fun q wr2 => ∃ j : Nat, j ≤ x.cl ∧ q = .int .i64 j ∧ wr2 = wr) (fun q _ => x.cl - (intOf q).toNat)
      case atStart => exact ⟨0, Nat.zero_le _, rfl, rfl⟩
      case round =>
        obtain ⟨j, hj, rfl, hw⟩ := hrel
        subst hw
        by_cases hlt : j < x.cl
        · obtain ⟨b, off, rfl, hc⟩ := NA.out j hlt
          go_wp2_with fail
          go_roundw
          case rel => exact ⟨j + 1, by omega, by go_num, by first | trivial | rfl⟩
          case measure => (simp [intOf]; try omega)
        · go_wp2_with fail
          go_roundw
          case rel => exact ⟨1, by omega, by go_num, by first | trivial | rfl⟩
          case measure => (simp [intOf]; try omega)
    · have ix : ∀ w, (Instr.index 53 (.agg #[.slice acca x.cl accc, .slice baca W.cl bacc, .slice bcca x.cl bccc]) (.int .i64 1)).run Try.prog w = .ok (.slice baca W.cl bacc) w := fun _ => by kernel_rfl
      go_wp2_with fail
      go_loopw [141] (fun q wr2 => ∃ j : Nat, j ≤ W.cl ∧ q = .int .i64 j ∧ wr2 = wr) (fun q _ => W.cl - (intOf q).toNat)
      case atStart => exact ⟨0, Nat.zero_le _, rfl, rfl⟩
      case round =>
        obtain ⟨j, hj, rfl, hw⟩ := hrel
        subst hw
        by_cases hlt : j < W.cl
        · obtain ⟨b, off, rfl, hc⟩ := NB.out j hlt
          go_wp2_with fail
          go_roundw
          case rel => exact ⟨j + 1, by omega, by go_num, by first | trivial | rfl⟩
          case measure => (simp [intOf]; try omega)
        · go_wp2_with fail
          go_roundw
          case rel => exact ⟨2, by omega, by go_num, by first | trivial | rfl⟩
          case measure => (simp [intOf]; try omega)
    · have ix : ∀ w, (Instr.index 53 (.agg #[.slice acca x.cl accc, .slice baca W.cl bacc, .slice bcca x.cl bccc]) (.int .i64 2)).run Try.prog w = .ok (.slice bcca x.cl bccc) w := fun _ => by kernel_rfl
      go_wp2_with fail
      go_loopw [141] (fun q wr2 => ∃ j : Nat, j ≤ x.cl ∧ q = .int .i64 j ∧ wr2 = wr) (fun q _ => x.cl - (intOf q).toNat)
      case atStart => exact ⟨0, Nat.zero_le _, rfl, rfl⟩
      case round =>
        obtain ⟨j, hj, rfl, hw⟩ := hrel
        subst hw
        by_cases hlt : j < x.cl
        · obtain ⟨b, off, rfl, hc⟩ := NC.out j hlt
          go_wp2_with fail
          go_roundw
          case rel => exact ⟨j + 1, by omega, by go_num, by first | trivial | rfl⟩
          case measure => (simp [intOf]; try omega)
        · go_wp2_with fail
          go_roundw
          case rel => exact ⟨3, by omega, by go_num, by first | trivial | rfl⟩
          case measure => (simp [intOf]; try omega)
    · go_wp2_with fail
      refine (awake06_any _).mono ?_
      rintro e w9 ⟨rfl, hb9⟩
      go_wp2_with fail
      go_ret
      exact ⟨rfl, bb.out.trans (hb9.mono bb.out.size)⟩

theorem denseNoughts_walk (W B x G : TV) (w : World) (hW : W.At w ∧ W.Cap) (hB : B.At w ∧ B.Cap) (hx : x.At w ∧ x.Cap) (hG : G.At w ∧ G.Cap) :
    Calls Try.prog 7 #[.agg #[.slice W.sa W.sl W.sc, .slice W.ca W.cl W.cc, .slice B.sa B.sl B.sc, .slice B.ca B.cl B.cc, .slice x.sa x.sl x.sc, .slice x.ca x.cl x.cc, .slice G.sa G.sl G.sc, .slice G.ca G.cl G.cc]] w fun e w' => e = .returned (.bool true) ∧ Below w.heap.size w w' := by
  cases hs : smallC W B x G
  · exact noughts_1 W B x G w hW.1 hB.1 hx.1 hG.1 hs
  cases hF : fitT W.ss W.cl B.ss B.cl x.ss x.cl
  · exact noughts_2 W B x G w hW.1 hB.1 hx.1 hG.1 hs hF
  cases hR : rightT G.ss G.cl
  · exact noughts_3 W B x G w hW.1 hB.1 hx.1 hG.1 hs hF hR
  cases hS : sameL G.ss B.ss
  · exact noughts_4 W B x G w hW.1 hB.1 hx.1 hG.1 hs hF hR hS
  · exact noughts_5 W B x G w hW.1 hB.1 hx.1 hG.1 hW.2 hs hF hR hS
end Go.Proofs.Ytlpecdfiagklpaa
