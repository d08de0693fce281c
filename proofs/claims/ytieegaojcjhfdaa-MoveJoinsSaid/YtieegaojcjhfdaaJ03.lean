import Derived.Test.YtieegaojcjhfdaaJ00
import Derived.Test.YtieegaojcjhfdaaJ01
import Derived.Test.YtieegaojcjhfdaaJ02
import Derived.Deep.RegionHeld3
import Derived.Deep.RegionWith
import Derived.Lib.SmallJoins
import Derived.ChangeSlices
import Derived.OpenShut
import Derived.SizedLaws
import Derived.Deep.DeepCutAuto
import Derived.Deep.CutBlock
import Derived.Deep.SlicePairs
/-
  Results of package tensor as lists, whatever the way: Make, Of, Copy.
-/
namespace Go.Proofs.Ytieegaojcjhfdaa
open Go.RowKit
set_option linter.unusedVariables false
set_option linter.unusedSimpArgs false

/-- A tensor of these lists and this error came back; all that was there before is as it was. -/
def ResT (w : World) (ss cs : List Int) (x : Int) (e : Ending) (w' : World) : Prop :=
  ∃ A n c A' n' c', e = .returned (.tuple #[.agg #[.slice A n c, .slice A' n' c'], .int .i64 x]) ∧ IntsAt w' A n ss ∧ IntsAt w' A' n' cs ∧ Below w.heap.size w w'
theorem ResT.of_nil {w : World} {x : Int} {e : Ending} {w' : World} (h : NilT w x e w') : ResT w [] [] x e w' :=
  ⟨none, 0, 0, none, 0, 0, h.1, IntsAt.nil _ _, IntsAt.nil _ _, h.2⟩
theorem ResT.of_ok {w : World} {sl cl : Nat} {ss cs : List Int} {e : Ending} {w' : World} (h : OkT w sl ss cl cs e w') (h1 : sl ≤ 9223372036854775807) (h2 : cl ≤ 9223372036854775807) (f1 : Fits ss) (f2 : Fits cs) : ResT w ss cs 0 e w' := by
  obtain ⟨v, rfl, A, c, A', c', rfl, o1, o2, -, hb⟩ := h
  exact ⟨A, sl, c, A', cl, c', rfl, row_ints o1 h1 f1, row_ints o2 h2 f2, hb⟩

def okL (b : Bool) (l : List Int) : List Int := if b = true then l else []
def okE (b : Bool) : Int := if b = true then 0 else 20

theorem make_any (sa : Option Addr) (sl sc : Nat) (ss : List Int) (x : Int) (w : World) (h : IntsAt w sa sl ss) (hx1 : -9223372036854775808 ≤ x) (hx2 : x ≤ 9223372036854775807) :
    Calls Try.prog 35 #[.slice sa sl sc, .int .i64 x] w (ResT w (okL (rightS ss) ss) (okL (rightS ss) (List.replicate (prodI ss).toNat x)) (okE (rightS ss))) := by
  cases b : rightS ss
  · exact (make_no sa sl sc ss x w h b).mono fun e w' h' => ResT.of_nil h'
  · have hp := prodI_pos (rightS_parts b).2.2.1
    have hq := (rightS_parts b).2.2.2
    exact (make_ok sa sl sc ss x w h b (prodI ss).toNat (by omega)).mono fun e w' h' => ResT.of_ok h' h.2.1 (by omega) h.2.2.1 (fun n hn => by rw [List.eq_of_mem_replicate hn]; exact ⟨hx1, hx2⟩)
theorem of_any (sa : Option Addr) (sl sc : Nat) (ss : List Int) (ca : Option Addr) (cl cc : Nat) (cs : List Int) (w : World) (h : IntsAt w sa sl ss) (hs : sl ≤ 1000) (hc : IntsAt w ca cl cs) (hl : cl ≤ 1000) :
    Calls Try.prog 24 #[.slice sa sl sc, .slice ca cl cc] w (ResT w (okL (rightT ss cl) ss) (okL (rightT ss cl) cs) (okE (rightT ss cl))) := by
  cases b : rightT ss cl
  · exact (of_no sa sl sc ss ca cl cc w h (by omega) b).mono fun e w' h' => ResT.of_nil h'
  · exact (of_ok sa sl sc ss ca cl cc cs w h hs hc hl b).mono fun e w' h' => ResT.of_ok h' h.2.1 hc.2.1 h.2.2.1 hc.2.2.1

/-- A new row of n numbers lies in block g if it lies anywhere. -/
theorem row_block {w : World} {B M : Nat} {e : TypeId} {A : Option Addr} {n c : Nat} {xs : List Value} (h : w.ownsRow B e 1 (.slice A n c) n xs) (hM : w.heap.size ≤ M) :
    ∃ g, (∀ q, A = some q → q = ⟨g, 0, none⟩) ∧ B ≤ max B g ∧ (A = none → g = M) ∧ (∀ q, A = some q → B ≤ g ∧ g < w.heap.size) := by
  rcases Joins.ownsRow_forms h with ⟨hv, -⟩ | ⟨g, cap, hv⟩
  · simp only [Value.slice.injEq] at hv
    obtain ⟨rfl, -, -⟩ := hv
    refine ⟨M, ?_, by omega, fun _ => rfl, ?_⟩ <;> (intro q hq; cases hq)
  · simp only [Value.slice.injEq] at hv
    obtain ⟨rfl, -, rfl⟩ := hv
    refine ⟨g, ?_, by omega, ?_, ?_⟩
    · intro q hq; cases hq; rfl
    · intro hq; cases hq
    · intro q hq; exact h.lt g rfl

theorem flipN {P : Program} {f : FuncId} {args : Array Value} {w : World} {n : Nat} {v : Value} (h : Calls P f args (w.drewN n) fun e w' => e = .returned v ∧ ∃ m, w' = (w.drewN n).drewN m) :
    Calls P f args (w.drewN n) fun e w' => e = .returned v ∧ ∃ m, w' = w.drewN m :=
  h.mono fun _ _ ⟨he, m, hm⟩ => ⟨he, n + m, by rw [hm, World.drewN_drewN]⟩

/-- Each cell one greater, as Go counts. -/
def incL (cs : List Int) : List Int := cs.map fun x => wrap64 (x + 1)
theorem incL_length (cs : List Int) : (incL cs).length = cs.length := by simp [incL]
theorem incL_get {cs : List Int} {k : Nat} (h : k < cs.length) : (incL cs).getD k 0 = wrap64 (cs.getD k 0 + 1) := by
  simp [incL, List.getD, List.getElem?_eq_getElem h]
end Go.Proofs.Ytieegaojcjhfdaa

/-
  Contracts of package tensor: distance, blocks.
-/
namespace Go.Proofs.Ytieegaojcjhfdaa
open Go.RowKit
set_option linter.unusedVariables false
set_option linter.unusedSimpArgs false

theorem drop_get (zs : List Int) (a j : Nat) : (zs.drop a).getD j 0 = zs.getD (a + j) 0 := by simp [List.getD, List.getElem?_drop]

/-- A part of a slice reads as the part of its list. -/
theorem IntsAt.drop {w : World} {b off len : Nat} {zs : List Int} (h : IntsAt w (some ⟨b, off, none⟩) len zs) (a : Nat) (ha : a ≤ len) : IntsAt w (some ⟨b, off + a, none⟩) (len - a) (zs.drop a) := by
  obtain ⟨h1, h2, h3, h4⟩ := h
  refine ⟨by rw [List.length_drop, h1], by omega, fun n hn => h3 n (List.mem_of_mem_drop hn), ?_⟩
  rcases h4 with h4 | ⟨b', off', hb, hc⟩
  · exact .inl (by omega)
  · cases hb
    refine .inr ⟨b, off + a, rfl, fun j hj => ?_⟩
    rw [drop_get, Nat.add_assoc]
    exact hc (a + j) (by omega)

set_option maxHeartbeats 2000000 in
theorem distance_any (sa : Option Addr) (sl sc : Nat) (ss : List Int) (k : Nat) (w : World) (h : IntsAt w sa sl ss) (hk : k < sl) (hcap : sl ≤ sc) (hcm : sc ≤ 9223372036854775807) (hr : allR 1 1024 ss = true) (h4 : sl ≤ 4) :
    Calls Try.prog 34 #[.slice sa sl sc, .int .i64 k] w fun e w' => e = .returned (.int .i64 (prodI (ss.drop (k + 1)))) ∧ w = w' := by
  obtain ⟨b, off, rfl, -⟩ : ∃ b off, sa = some ⟨b, off, none⟩ ∧ True := by
    rcases h.2.2.2 with h5 | ⟨b, off, ha, _⟩
    · omega
    · exact ⟨b, off, ha, trivial⟩
  have hD := h.drop (k + 1) (by omega)
  obtain ⟨m, hm⟩ : ∃ m, sl - (k + 1) = m := ⟨_, rfl⟩
  obtain ⟨zs, hz⟩ : ∃ zs, ss.drop (k + 1) = zs := ⟨_, rfl⟩
  have hrz : allR 1 1024 zs = true := by rw [← hz]; exact allR_drop hr _
  rw [hm, hz] at hD
  rw [hz]
  have hzl := Lib.hid hD.1
  have hm4 : m ≤ 4 := by omega
  have HR := Lib.hid hrz
  have hcell := Lib.hid (show ∀ j, j < m → w.cell? ⟨b, off + (k + 1) + j, none⟩ = some (.int .i64 (zs.getD j 0)) by
    rcases hD.2.2.2 with h5 | ⟨b', off', ha, hc⟩
    · intro j hj; omega
    · cases ha; exact hc)
  have hP := Lib.hid (fun j (hj : j ≤ m) => (show 1 ≤ prodI (zs.take j) ∧ prodI (zs.take j) ≤ 1099511627776 from ⟨prodI_pos (allR_take hrz j), prodI_le (allR_take hrz j) (by rw [List.length_take]; omega)⟩))
  have HM := Lib.hid hm
  have q1 : ((k : Int) + 1) ≤ (sl : Int) := by omega
  clear h hD hrz hr hz hm
  by_cases hsc : sc = k + 1
  · go_enter Try.func34, Try.ntmps34
    go_wp2_with fail
    go_loopw [5, 13] (fun t i wr => ∃ j : Nat, j ≤ m ∧ i = .int .i64 j ∧ t = .int .i64 (prodI (zs.take j)) ∧ wr = w) (fun _ i _ => m - (intOf i).toNat)
    case atStart => exact ⟨0, Nat.zero_le _, rfl, by simp [prodI], rfl⟩
    case round =>
      obtain ⟨j, hj, rfl, rfl, rfl⟩ := hrel
      by_cases hlt : j < m
      · exfalso
        have := HM.out
        omega
      · obtain rfl : j = m := by omega
        rw [List.take_of_length_le (by rw [hzl.out]; omega)]
        have hlt' : ¬ (j : Int) < ((sl - (k + 1) : Nat) : Int) := by have := HM.out; omega
        go_wp2_with fail
        go_ret
        exact ⟨rfl, rfl⟩
  · go_enter Try.func34, Try.ntmps34
    go_wp2_with fail
    go_loopw [5, 13] (fun t i wr => ∃ j : Nat, j ≤ m ∧ i = .int .i64 j ∧ t = .int .i64 (prodI (zs.take j)) ∧ wr = w) (fun _ i _ => m - (intOf i).toNat)
    case atStart => exact ⟨0, Nat.zero_le _, rfl, by simp [prodI], rfl⟩
    case round =>
      obtain ⟨j, hj, rfl, rfl, rfl⟩ := hrel
      by_cases hlt : j < m
      · have hc := hcell.out j hlt
        obtain ⟨x1, x2⟩ := allR_getD HR.out j (by rw [hzl.out]; exact hlt)
        have hst := prodI_step zs j (by rw [hzl.out]; exact hlt)
        obtain ⟨p1, p2⟩ := hP.out j hj
        obtain ⟨p3, p4⟩ := hP.out (j + 1) hlt
        have HST := Lib.hid hst
        rw [hst] at p3 p4
        generalize zs.getD j 0 = x at *
        generalize prodI (zs.take j) = t at *
        have hw1 : IntKind.i64.wrap (t * x) = t * x := IntWalk.i64_in _ (by omega)
        have hlt' : (j : Int) < ((sl - (k + 1) : Nat) : Int) := by have := HM.out; omega
        clear hst
        go_wp2_with fail
        go_roundw
        case rel => exact ⟨j + 1, by omega, by go_num, by rw [HST.out], trivial⟩
        case measure => (simp [intOf]; try omega)
      · obtain rfl : j = m := by omega
        rw [List.take_of_length_le (by rw [hzl.out]; omega)]
        have hlt' : ¬ (j : Int) < ((sl - (k + 1) : Nat) : Int) := by have := HM.out; omega
        go_wp2_with fail
        go_ret
        exact ⟨rfl, rfl⟩

theorem prodI_split (ss : List Int) (k : Nat) (hk : k < ss.length) : prodI ss = prodI (ss.take k) * (ss.getD k 0 * prodI (ss.drop (k + 1))) := by
  have e : ss = ss.take k ++ (ss.getD k 0 :: ss.drop (k + 1)) := by
    have h1 := List.take_append_drop k ss
    rw [List.drop_eq_getElem_cons hk] at h1
    have h2 : ss.getD k 0 = ss[k] := by simp [List.getD, List.getElem?_eq_getElem hk]
    rw [h2]; exact h1.symm
  have h3 := congrArg prodI e
  rw [prodI_append, prodI_cons] at h3
  exact h3

set_option maxHeartbeats 4000000 in
theorem blocks_any (sa : Option Addr) (sl sc : Nat) (ss : List Int) (b off cl cc : Nat) (k n M : Nat) (w : World) (h : IntsAt w sa sl ss) (hcap : sl ≤ sc) (hcm : sc ≤ 9223372036854775807) (hT : rightT ss cl = true) (hk : k < sl)
    (hcc : cl ≤ cc) (hccm : cc ≤ 9223372036854775807) (hl : cl ≤ 2000) (hn : ss.getD k 0 * prodI (ss.drop (k + 1)) = n) (hM : prodI (ss.take k) = M) :
    Calls Try.prog 28 #[.agg #[.slice sa sl sc, .slice (some ⟨b, off, none⟩) cl cc], .int .i64 k] w
      fun e w' => ∃ v, e = .returned v ∧ w'.ownsRow w.heap.size 27 1 v M ((upL 0 M).map (pieceV b off n)) ∧ Below w.heap.size w w' := by
  obtain ⟨hr, hcl⟩ := rightT_parts hT
  obtain ⟨-, hl4, hall, -⟩ := rightS_parts hr
  have hsl := h.1
  have hL : cl = M * n := by
    rw [prodI_split ss k (by omega), hn, hM] at hcl
    have : ((M * n : Nat) : Int) = (M : Int) * (n : Int) := by simp
    omega
  have hn1 : 1 ≤ n := by
    have h1 := (allR_getD hall k (by omega)).1
    have h2 := prodI_pos (allR_drop hall (k + 1))
    have h3 : 1 * 1 ≤ ss.getD k 0 * prodI (ss.drop (k + 1)) := Int.mul_le_mul h1 h2 (by omega) (by omega)
    omega
  have hM1 : M ≤ cl := by rw [hL]; exact Nat.le_mul_of_pos_right M hn1
  have hn2 : n ≤ cl := by
    have : 1 ≤ M := by have := prodI_pos (allR_take hall k); omega
    rw [hL]; exact Nat.le_mul_of_pos_left n this
  obtain ⟨wA, hwA, J, z, n1⟩ := grid_box w (.slice sa sl sc) (.slice (some ⟨b, off, none⟩) cl cc)
  obtain ⟨sb, so, rfl, hcs⟩ : ∃ b off, sa = some ⟨b, off, none⟩ ∧ wA.cell? ⟨b, off + k, none⟩ = some (.int .i64 (ss.getD k 0)) := by
    rcases (h.kept z.out).2.2.2 with h5 | ⟨b, off, ha, hcx⟩
    · omega
    · exact ⟨b, off, ha, hcx k hk⟩
  have DD := fun w1 (hb : Below wA.heap.size wA w1) => distance_any (some ⟨sb, so, none⟩) sl sc ss k w1 ((h.kept z.out).kept hb) hk hcap hcm hall (by omega)
  obtain ⟨x, hx⟩ : ∃ x, ss.getD k 0 = x := ⟨_, rfl⟩
  obtain ⟨P, hP⟩ : ∃ P, prodI (ss.drop (k + 1)) = P := ⟨_, rfl⟩
  rw [hP] at DD
  rw [hx] at hcs
  rw [hx, hP] at hn
  have hw1 : IntKind.i64.wrap (x * P) = (n : Int) := by rw [hn]; exact IntWalk.i64_in _ (by omega)
  have D1 := Lib.hid DD
  have CH := Lib.hid (fun w1 => chunk_any (some ⟨b, off, none⟩) cl cc n hn1 w1)
  have CO := Lib.hid (fun Bs Bn w1 hC => collect_any Bs Bn b off cc n M cl hn1 hL hcc hccm (by omega) (by omega) w1 hC)
  have SK := Lib.hid (fun w' (hb : Below wA.heap.size wA w') => (⟨(J.out.kept hb).see.1, (J.out.kept hb).see.2.1, cell_later hb hcs⟩ :
    w'.cell? ⟨w.heap.size, 0, none⟩ = some (.slice (some ⟨sb, so, none⟩) sl sc) ∧ w'.cell? ⟨w.heap.size, 1, none⟩ = some (.slice (some ⟨b, off, none⟩) cl cc) ∧ w'.cell? ⟨sb, so + k, none⟩ = some (.int .i64 x)))
  have u0 := SK.out _ (Below.refl _ _)
  have t0 := Lib.hid (Below.refl wA.heap.size wA).drew
  have u1 := SK.out _ t0.out
  have hk' : (k : Int) < (sl : Int) := by omega
  have CB : Hid (∀ w4, (wA.drew.alloc (.cells #[.slice (some ⟨b, off, none⟩) cl cc] 27)).alloc (.cells #[.int .i64 n] 3) = w4 → Below wA.heap.size wA w4 ∧ ChunkC wA.drew.heap.size (wA.drew.heap.size + 1) b off cl cc n w4) := Lib.hid (by
    rintro w4 rfl
    refine ⟨?_, chunk_boxes _ _ _ _ _ _⟩
    have h1 := t0.out.alloc t0.out.size (.cells #[.slice (some ⟨b, off, none⟩) cl cc] 27)
    exact h1.alloc h1.size _)
  clear h DD hcs hn hM hL hx hP hT hr hall hl4 hcl hsl
  go_enter Try.func28, Try.ntmps28
  go_upto_region 1 with (fail)
  rw [hwA.out]
  go_region_held3 (fun w' => w'.cell? ⟨w.heap.size, 0, none⟩ = some (.slice (some ⟨sb, so, none⟩) sl sc) ∧ w'.cell? ⟨w.heap.size, 1, none⟩ = some (.slice (some ⟨b, off, none⟩) cl cc) ∧ w'.cell? ⟨sb, so + k, none⟩ = some (.int .i64 x))
    (first | exact u0 | exact u1 | exact u4 | exact u5 | go_keep)
    ((first
      | (go_at_call 34; refine (D1.out _ t0.out).mono ?_; rintro e w3 ⟨rfl, rfl⟩)
      | (go_at_call 43; refine (CH.out _).mono ?_; rintro e w4 ⟨rfl, hw4⟩; have q4 := CB.out w4 hw4; have b4 := Lib.hid q4.1; have u4 := SK.out w4 b4.out; have c4 := Lib.hid q4.2; clear hw4 q4)
      | (go_at_call 42; refine (CO.out _ _ _ c4.out).mono ?_; rintro e w5 ⟨v, rfl, ho5, hb5⟩; have b5 := Lib.hid (b4.out.trans (hb5.mono b4.out.size)); have u5 := SK.out w5 b5.out; have o5 := Lib.hid ho5; clear ho5 hb5)))
  rename_i hHeld
  clear hHeld u0 u1 u4 u5
  have fin : w5.ownsRow w.heap.size 27 1 v M ((upL 0 M).map (pieceV b off n)) ∧ Below w.heap.size w w5 :=
    ⟨Joins.ownsRow_le o5.out (Nat.le_trans z.out.size b4.out.size), z.out.trans (b5.out.mono z.out.size)⟩
  have F := Lib.hid fin
  clear fin
  go_wp2_with fail
  go_ret
  exact ⟨v, rfl, F.out.1, F.out.2⟩
end Go.Proofs.Ytieegaojcjhfdaa

/-
  Contracts of package tensor: Cut.
-/
namespace Go.Proofs.Ytieegaojcjhfdaa
open Go.RowKit
set_option linter.unusedVariables false
set_option linter.unusedSimpArgs false

/-- The cells of a part: of each of the first blocks of n cells those from the lo-th on, wd of them. -/
def cutP (cs : List Int) (n lo wd : Nat) : Nat → List Int
  | 0 => []
  | j + 1 => cutP cs n lo wd j ++ (cs.drop (j * n + lo)).take wd
theorem mul_room {j M n : Nat} (h : j < M) : j * n + n ≤ M * n := by
  have := Nat.mul_le_mul_right n (show j + 1 ≤ M from h)
  rwa [Nat.succ_mul] at this
theorem cutP_length {cs : List Int} {n lo wd : Nat} (h : lo + wd ≤ n) : ∀ M, M * n ≤ cs.length → (cutP cs n lo wd M).length = M * wd := by
  intro M
  induction M with
  | zero => intro _; simp [cutP]
  | succ M ih =>
    intro hM
    rw [Nat.succ_mul] at hM
    simp only [cutP, List.length_append, List.length_take, List.length_drop]
    rw [ih (by omega), Nat.succ_mul]
    omega
theorem cutP_fits {cs : List Int} (h : Fits cs) (n lo wd : Nat) : ∀ M, Fits (cutP cs n lo wd M) := by
  intro M
  induction M with
  | zero => intro q hq; simp [cutP] at hq
  | succ M ih =>
    intro q hq
    rcases List.mem_append.1 hq with hq | hq
    · exact ih q hq
    · exact h q (List.mem_of_mem_drop (List.mem_of_mem_take hq))

theorem upL_get : ∀ (M j i : Nat), i < M → (upL j M)[i]? = some (j + i) := by
  intro M
  induction M with
  | zero => intro j i h; omega
  | succ M ih =>
    intro j i h
    cases i with
    | zero => simp [upL]
    | succ i =>
      simp only [upL, List.getElem?_cons_succ]
      rw [ih (j + 1) i (by omega)]
      congr 1
      omega
/-- A part of a slice's cells lies where the part begins. -/
theorem piece_news {w : World} {b off cl : Nat} {cs : List Int} (h : IntsAt w (some ⟨b, off, none⟩) cl cs) (a m : Nat) : ∀ i u, (((cs.drop a).take m).map (Value.int .i64))[i]? = some u → w.cell? ((⟨b, off + a, none⟩ : Addr).add i) = some u := by
  intro i u hi
  have hil := (List.getElem?_eq_some_iff.1 hi).1
  rw [List.length_map, List.length_take, List.length_drop, h.1] at hil
  rcases h.2.2.2 with h4 | ⟨b', off', hb, hc⟩
  · omega
  · cases hb
    rw [Addr.add_lit, Nat.add_assoc, hc (a + i) (by omega), ← hi]
    have hl := h.1
    rw [List.getElem?_map, List.getElem?_take, if_pos (by omega), List.getElem?_drop]
    simp [List.getD, List.getElem?_eq_getElem (show a + i < cs.length by omega)]

set_option maxHeartbeats 2000000 in
theorem cutT_wrong (sa : Option Addr) (sl sc : Nat) (ss : List Int) (ca : Option Addr) (cl cc : Nat) (side fr tt : Int) (w : World) (h : IntsAt w sa sl ss) (hl : cl ≤ 9223372036854775807) (hr : rightT ss cl = false) :
    Calls Try.prog 17 #[.agg #[.slice sa sl sc, .slice ca cl cc], .int .i64 side, .int .i64 fr, .int .i64 tt] w (NilT w 20) := by
  obtain ⟨wA, hwA, J1, z1, n1⟩ := grid_box w (.slice sa sl sc) (.slice ca cl cc)
  obtain ⟨wB, hwB, J2, z2, n2⟩ := grid_box wA (.slice none 0 0) (.slice none 0 0)
  rw [n1.out] at J2
  have z := Lib.hid (z1.out.trans (z2.out.mono z1.out.size))
  have J := Lib.hid (J1.out.kept z2.out)
  have C := tright_any sa sl sc ss ca cl cc wB (h.kept z.out) hl
  rw [hr] at C
  have C1 := Lib.hid C
  clear h J1 C hr
  obtain ⟨j0, j1, -, -⟩ := J.out.see
  go_enter Try.func17, Try.ntmps17
  go_upto_region 1 with (fail)
  rw [hwA.out, hwB.out]
  go_wp2_with fail
  refine C1.out.mono ?_
  rintro e w1 ⟨rfl, hb1⟩
  obtain ⟨e0, e1, f0, f1⟩ := (J2.out.kept hb1).see
  obtain ⟨h0, h1, -, -⟩ := ((J2.out.kept hb1).set (.slice none 0 0) (.slice none 0 0)).see
  have Z : Below w.heap.size w ((w1.setCell ⟨w.heap.size + 1, 0, none⟩ (.slice none 0 0)).setCell ⟨w.heap.size + 1, 1, none⟩ (.slice none 0 0)) :=
    ((z.out.trans (hb1.mono z.out.size)).setCell (Nat.le_add_right _ _) _).setCell (Nat.le_add_right _ _) _
  go_wp2_with fail
  refine bodyPost_ret (v := .tuple #[.agg #[.slice none 0 0, .slice none 0 0], .int .i64 20]) ?_ rfl ⟨rfl, Z⟩
  simp [results, Try.results17, go_sem, h0, h1]

set_option maxHeartbeats 2000000 in
theorem cutT_none (sa : Option Addr) (sl sc : Nat) (ss : List Int) (ca : Option Addr) (cl cc : Nat) (side fr tt x : Int) (w : World) (h : IntsAt w sa sl ss) (hl : cl ≤ 9223372036854775807) (hr : rightT ss cl = true) (hx : x ≠ 0)
    (HC : ∀ w1, Below w.heap.size w w1 → Calls Try.prog 33 #[.slice sa sl sc, .int .i64 side, .int .i64 fr, .int .i64 tt] w1 (NilE w1 x)) :
    Calls Try.prog 17 #[.agg #[.slice sa sl sc, .slice ca cl cc], .int .i64 side, .int .i64 fr, .int .i64 tt] w (NilT w x) := by
  obtain ⟨wA, hwA, J1, z1, n1⟩ := grid_box w (.slice sa sl sc) (.slice ca cl cc)
  obtain ⟨wB, hwB, J2, z2, n2⟩ := grid_box wA (.slice none 0 0) (.slice none 0 0)
  rw [n1.out] at J2
  have z := Lib.hid (z1.out.trans (z2.out.mono z1.out.size))
  have J := Lib.hid (J1.out.kept z2.out)
  have C := tright_any sa sl sc ss ca cl cc wB (h.kept z.out) hl
  rw [hr] at C
  have C1 := Lib.hid C
  have D := Lib.hid (fun w1 (hb : Below wB.heap.size wB w1) => HC w1 (z.out.trans (hb.mono z.out.size)))
  clear h J1 C hr HC
  obtain ⟨j0, j1, -, -⟩ := J.out.see
  go_enter Try.func17, Try.ntmps17
  go_upto_region 1 with (fail)
  rw [hwA.out, hwB.out]
  go_wp2_with fail
  refine C1.out.mono ?_
  rintro e w1 ⟨rfl, hb1⟩
  obtain ⟨k0, k1, -, -⟩ := (J.out.kept hb1).see
  go_wp2_with fail
  refine (D.out w1 hb1).mono ?_
  rintro e w2 ⟨rfl, hb2⟩
  have hb := hb1.trans (hb2.mono hb1.size)
  obtain ⟨e0, e1, f0, f1⟩ := (J2.out.kept hb).see
  obtain ⟨h0, h1, -, -⟩ := ((J2.out.kept hb).set (.slice none 0 0) (.slice none 0 0)).see
  have Z : Below w.heap.size w ((w2.setCell ⟨w.heap.size + 1, 0, none⟩ (.slice none 0 0)).setCell ⟨w.heap.size + 1, 1, none⟩ (.slice none 0 0)) :=
    ((z.out.trans (hb.mono z.out.size)).setCell (Nat.le_add_right _ _) _).setCell (Nat.le_add_right _ _) _
  go_wp2_with fail
  refine bodyPost_ret (v := .tuple #[.agg #[.slice none 0 0, .slice none 0 0], .int .i64 x]) ?_ rfl ⟨rfl, Z⟩
  simp [results, Try.results17, go_sem, h0, h1]

set_option maxRecDepth 100000 in
set_option maxHeartbeats 4000000 in
theorem cutT_ok (sa : Option Addr) (sl sc : Nat) (ss : List Int) (ca : Option Addr) (cl cc : Nat) (cs : List Int) (k : Nat) (fr tt : Int) (n M lo wd : Nat) (w : World) (h : IntsAt w sa sl ss) (hcap : sl ≤ sc) (hcm : sc ≤ 9223372036854775807)
    (hc : IntsAt w ca cl cs) (hcc : cl ≤ cc) (hccm : cc ≤ 9223372036854775807) (hl : cl ≤ 2000) (hT : rightT ss cl = true) (hk : k < sl) (n1 : 0 ≤ fr) (n2 : tt ≤ ss.getD k 0) (n3 : fr < tt)
    (hn : ss.getD k 0 * prodI (ss.drop (k + 1)) = n) (hM : prodI (ss.take k) = M) (hlo : fr * prodI (ss.drop (k + 1)) = lo) (hwd : (tt - fr) * prodI (ss.drop (k + 1)) = wd) :
    Calls Try.prog 17 #[.agg #[.slice sa sl sc, .slice ca cl cc], .int .i64 k, .int .i64 fr, .int .i64 tt] w (OkT w sl (ss.set k (tt - fr)) (M * wd) (cutP cs n lo wd M)) := by
  obtain ⟨hr, hcl⟩ := rightT_parts hT
  obtain ⟨-, hl4, hall, -⟩ := rightS_parts hr
  have hsl := h.1
  obtain ⟨x, hx⟩ : ∃ x, ss.getD k 0 = x := ⟨_, rfl⟩
  obtain ⟨P, hP⟩ : ∃ P, prodI (ss.drop (k + 1)) = P := ⟨_, rfl⟩
  have hP1 : 1 ≤ P := by rw [← hP]; exact prodI_pos (allR_drop hall (k + 1))
  have hx1 := (allR_getD hall k (by omega)).2
  have hM1 : 1 ≤ M := by have := prodI_pos (allR_take hall k); omega
  have hL : cl = M * n := by
    rw [prodI_split ss k (by omega), hn, hM] at hcl
    have : ((M * n : Nat) : Int) = (M : Int) * (n : Int) := by simp
    omega
  have hroom : lo + wd ≤ n ∧ 1 ≤ wd := by
    rw [hx] at n2 hn
    rw [hP] at hn hlo hwd
    have e1 : (lo : Int) + wd = tt * P := by rw [← hlo, ← hwd, ← Int.add_mul]; congr 1; omega
    have e2 : tt * P ≤ x * P := Int.mul_le_mul_of_nonneg_right n2 (by omega)
    have e3 : 1 * 1 ≤ (tt - fr) * P := Int.mul_le_mul (by omega) hP1 (by omega) (by omega)
    omega
  have htoP : tt * P = ((lo + wd : Nat) : Int) := by
    rw [hP] at hlo hwd
    have e1 : (lo : Int) + wd = tt * P := by rw [← hlo, ← hwd, ← Int.add_mul]; congr 1; omega
    omega
  obtain ⟨wA, hwA, J1, z1, m1⟩ := grid_box w (.slice sa sl sc) (.slice ca cl cc)
  obtain ⟨wB, hwB, J2, z2, m2⟩ := grid_box wA (.slice none 0 0) (.slice none 0 0)
  rw [m1.out] at J2
  have z := Lib.hid (z1.out.trans (z2.out.mono z1.out.size))
  have J := Lib.hid (J1.out.kept z2.out)
  have C := tright_any sa sl sc ss ca cl cc wB (h.kept z.out) (by omega)
  rw [hT] at C
  have C1 := Lib.hid C
  have H := Lib.hid (fun w1 (hb : Below wB.heap.size wB w1) => (h.kept z.out).kept hb)
  have HC := Lib.hid (fun w1 (hb : Below wB.heap.size wB w1) => (hc.kept z.out).kept hb)
  obtain ⟨b, off, rfl⟩ : ∃ b off, ca = some ⟨b, off, none⟩ := by
    rcases hc.2.2.2 with h5 | ⟨b, off, ha, _⟩
    · have := rightT_pos hT; omega
    · exact ⟨b, off, ha⟩
  have D := Lib.hid (fun w1 (hb : Below wB.heap.size wB w1) => cut_ok sa sl sc ss k fr tt w1 (H.out w1 hb) hr hk n1 n2 n3)
  have DI := fun w1 (hb : Below wB.heap.size wB w1) => distance_any sa sl sc ss k w1 (H.out w1 hb) hk hcap hcm hall (by omega)
  rw [hP] at DI
  have DI' := Lib.hid DI
  have BL := Lib.hid (fun w1 (hb : Below wB.heap.size wB w1) => blocks_any sa sl sc ss b off cl cc k n M w1 (H.out w1 hb) hcap hcm hT hk hcc hccm hl hn hM)
  have hcsl := Lib.hid hc.1
  have hfc := Lib.hid hc.2.2.1
  rw [hP] at hlo
  have w1' : IntKind.i64.wrap (fr * P) = (lo : Int) := by rw [hlo]; exact IntWalk.i64_in _ (by have := Nat.mul_le_mul_right n hM1; omega)
  have w2' : IntKind.i64.wrap (tt * P) = ((lo + wd : Nat) : Int) := by rw [htoP]; exact IntWalk.i64_in _ (by have := Nat.mul_le_mul_right n hM1; omega)
  have HLL := Lib.hid hL
  have HRM := Lib.hid hroom
  have hn6 : n ≤ 2000 := by have := Nat.mul_le_mul_right n hM1; omega
  have hlow : lo + wd ≤ n := hroom.1
  have hM6 : M ≤ 2000 := by have := Nat.le_mul_of_pos_right M (show 0 < n by omega); omega
  have hwd1 : 1 ≤ wd := hroom.2
  clear h hc J1 C hT hr hall hl4 hcl hsl DI hn hM hlo hwd htoP hx hP hx1 hP1 hL hroom n1 n2 n3
  obtain ⟨j0, j1, -, -⟩ := J.out.see
  go_enter Try.func17, Try.ntmps17
  go_upto_region 1 with (fail)
  rw [hwA.out, hwB.out]
  go_wp2_with fail
  refine C1.out.mono ?_
  rintro e w1 ⟨rfl, hb1⟩
  obtain ⟨k0, k1, -, -⟩ := (J.out.kept hb1).see
  go_wp2_with fail
  refine (D.out w1 hb1).mono ?_
  rintro e w2 ⟨A, c, rfl, ho2, hb2⟩
  have b2 := Lib.hid (hb1.trans (hb2.mono hb1.size))
  have ho2' := Lib.hid ho2
  have b2size := Lib.hid hb2.size
  have hb1' := Lib.hid hb1
  clear k0 k1 ho2 hb2 C1 D hb1
  obtain ⟨k0, k1, -, -⟩ := (J.out.kept b2.out).see
  go_wp2_with fail
  refine (DI'.out w2 b2.out).mono ?_
  rintro e w3 ⟨rfl, rfl⟩
  go_wp2_with fail
  refine (BL.out w2 b2.out).mono ?_
  rintro e w4 ⟨bv, rfl, ho4, hb4⟩
  obtain ⟨g, gc, hv⟩ := Joins.ownsRow_form ho4 (by omega)
  subst hv
  have b4 := Lib.hid (b2.out.trans (hb4.mono b2.out.size))
  have ho4' := Lib.hid ho4
  have hb4' := Lib.hid hb4
  have hb24 := Lib.hid hb4
  clear k0 k1 ho4 hb4 BL DI'
  obtain ⟨i0, hi, hz0, hz1, hz2⟩ := info_parts fInfo
  go_wp2_with fail
  go_loopw [13, 41] (fun t i wr => ∃ j : Nat, j ≤ M ∧ i = .int .i64 j ∧ Hid (wr.ownsRow w4.heap.size 35 1 t (j * wd) ((cutP cs n lo wd j).map (Value.int .i64))) ∧ Hid (Below w4.heap.size w4 wr)) (fun _ i _ => M - (intOf i).toNat)
  case atStart => exact ⟨0, Nat.zero_le _, rfl, Lib.hid (by rw [Nat.zero_mul]; exact World.ownsRow_nil _ _ _ _), Lib.hid (Below.refl _ _)⟩
  case round =>
    rename_i tv iv
    obtain ⟨j, hj, rfl, hrow, hbr⟩ := hrel
    by_cases hlt : j < M
    · have hcp : wr.cell? ⟨g, j, none⟩ = some (.slice (some ⟨b, off + j * n, none⟩) n n) := by
        have e := ho4'.out.cellAt j (by omega)
        rw [List.getElem?_map, upL_get M 0 j hlt, Nat.zero_add] at e
        exact cell_later hbr.out e
      have hcs : IntsAt wr (some ⟨b, off, none⟩) cl cs := HC.out wr (b4.out.trans (hbr.out.mono b4.out.size))
      have hjn := mul_room (n := n) hlt
      have hjL : j * n + n ≤ cl := by rw [HLL.out]; exact hjn
      have hjw : j * wd + wd ≤ 2000 := by
        have h1 := mul_room (n := wd) hlt
        have h2 : M * wd ≤ M * n := Nat.mul_le_mul_left M (by omega)
        rw [← HLL.out] at h2
        omega
      obtain ⟨q, hq⟩ : ∃ q, off + j * n = q := ⟨_, rfl⟩
      have hnew := piece_news hcs (j * n + lo) wd
      rw [show off + (j * n + lo) = q + lo by omega] at hnew
      have hlen : (((cs.drop (j * n + lo)).take wd).map (Value.int .i64)).length = (lo + wd - lo) * 1 := by
        rw [List.length_map, List.length_take, List.length_drop, hcsl.out]; omega
      have hone : ∀ u ∈ ((cs.drop (j * n + lo)).take wd).map (Value.int .i64), u.oneCell' = true := by
        intro u hu; obtain ⟨y, _, rfl⟩ := List.mem_map.1 hu; rfl
      have hb6 : j * wd + (lo + wd - lo) ≤ maxLen := by unfold maxLen; omega
      have hb7 : (j * wd + (lo + wd - lo)) * 8 ≤ 140737488355328 := by omega
      have hb8 : w4.heap.size ≤ wr.heap.size := hbr.out.size
      have hrw := hrow.out
      rw [hq] at hcp
      obtain ⟨L1, hL1⟩ : ∃ L, ((cs.drop (j * n + lo)).take wd).map (Value.int .i64) = L := ⟨_, rfl⟩
      rw [hL1] at hnew hlen hone
      have HL1 := Lib.hid hL1
      clear hcs hjn hjL hq hL1
      go_wp2_with (at_builtin; refine wpList_append_own _ rfl _ _ 27 rfl w4.heap.size 35 i0 (.int .i64 0) 1 8 Try.underlying27 hi hz0 hz1 hz2 rfl (by decide) _ (j * wd) _ rfl hrw ⟨b, q + lo, none⟩ (lo + wd - lo) (n - lo) L1 rfl hlen hnew hone hb6 hb7 hb8 ?_)
      intro v' w5 hown hgrow hnil
      have e1 : j * wd + wd = (j + 1) * wd := (Nat.succ_mul _ _).symm
      rw [← HL1.out, ← List.map_append, e1] at hown
      have hown' := Lib.hid (show w5.ownsRow w4.heap.size 35 1 v' ((j + 1) * wd) ((cutP cs n lo wd (j + 1)).map (Value.int .i64)) from hown)
      have hb5 := Lib.hid (hbr.out.grown hgrow hb8 (fun q' hq' => (hrw.lt q' hq').1))
      clear hown hgrow hnil hcp hnew hlen hone hb6 hb7 hb8 hrw e1 hjw
      go_wp2_with fail
      go_roundw
      case rel => exact ⟨j + 1, by omega, by go_num, hown', hb5⟩
      case measure => (simp [intOf]; try omega)
    · obtain rfl : j = M := by omega
      have hMw : 1 ≤ j * wd := Nat.mul_pos (by omega) hwd1
      obtain ⟨g5, c5, hv5⟩ := Joins.ownsRow_form hrow.out (by omega)
      subst hv5
      have hbb := b4.out.trans (hbr.out.mono b4.out.size)
      have J4 := J2.out.kept hbb
      obtain ⟨e0, e1, f0, f1⟩ := J4.see
      obtain ⟨h0, h1, -, -⟩ := (J4.set (.slice A sl c) (.slice (some ⟨g5, 0, none⟩) (j * wd) c5)).see
      have hsz1 : w.heap.size + 1 < w1.heap.size := by have := m1.out; have := m2.out; have := hb1'.out.size; omega
      have hsz4 : w1.heap.size ≤ w4.heap.size := by
        have e := hb4'.out.size
        have e2 := b2size.out
        omega
      have P : NewT w sl (ss.set k (tt - fr)) (j * wd) (cutP cs n lo wd j) (.agg #[.slice A sl c, .slice (some ⟨g5, 0, none⟩) (j * wd) c5]) ((wr.setCell ⟨w.heap.size + 1, 0, none⟩ (.slice A sl c)).setCell ⟨w.heap.size + 1, 1, none⟩ (.slice (some ⟨g5, 0, none⟩) (j * wd) c5)) := by
        refine ⟨A, c, _, c5, rfl, Joins.ownsRow_le (row_far (row_far (row_kept ho2'.out (hb24.out.trans (hbr.out.mono hb24.out.size))) ?_) ?_) (by omega), Joins.ownsRow_le (row_far (row_far hrow.out ?_) ?_) (by omega), ?_, ?_⟩
        · exact hsz1
        · exact hsz1
        · exact Nat.lt_of_lt_of_le hsz1 hsz4
        · exact Nat.lt_of_lt_of_le hsz1 hsz4
        · rintro p q rfl hq
          cases hq
          have h1 := (ho2'.out.lt p.block rfl).2
          have h2 := (hrow.out.lt g5 rfl).1
          have h3 := hb4'.out.size
          show p.block ≠ g5
          omega
        · exact ((z.out.trans (hbb.mono z.out.size)).setCell (Nat.le_add_right _ _) _).setCell (Nat.le_add_right _ _) _
      have P' := Lib.hid P
      clear P J4 hsz1 hsz4 hbb
      go_wp2_with fail
      refine bodyPost_ret (v := .tuple #[.agg #[.slice A sl c, .slice (some ⟨g5, 0, none⟩) (j * wd) c5], .int .i64 0]) ?_ rfl ⟨_, rfl, P'.out⟩
      simp [results, Try.results17, go_sem, h0, h1]
end Go.Proofs.Ytieegaojcjhfdaa

/-
  Contracts of the reference of layer 4 and of the statements' file: Parts, Cut; cells, same.
-/
namespace Go.Proofs.Ytieegaojcjhfdaa
open Go.RowKit
set_option linter.unusedVariables false
set_option linter.unusedSimpArgs false

set_option maxHeartbeats 1000000 in
theorem refsize_part (a : Option Addr) (len cap : Nat) (zs : List Int) (w : World) (h : IntsAt w a len zs) (r3' : allR 1 1024 zs = true) (r2 : zs.length ≤ 4) (r4 : prodI zs ≤ 65536) :
    Calls Try.prog 22 #[.slice a len cap] w fun e w' => e = .returned (.int .i64 (prodI zs)) ∧ w = w' := by
  have r3 := Lib.hid r3'
  clear r3'
  obtain ⟨h1, h2, h3, h4⟩ := h
  have hl := Lib.hid h1
  go_enter Try.func22, Try.ntmps22
  go_wp2_with fail
  go_loop [3, 4] (fun n i => ∃ k : Nat, k ≤ len ∧ i = .int .i64 k ∧ n = .int .i64 (prodI (zs.take k))) (fun _ i => len - (intOf i).toNat)
  case atStart => exact ⟨0, Nat.zero_le _, rfl, rfl⟩
  case round =>
    obtain ⟨k, hk, rfl, rfl⟩ := hrel
    by_cases hlt : k < len
    · rcases h4 with h4 | ⟨b, off, rfl, hc⟩
      · omega
      · have hcell := hc k hlt
        clear hc
        have P1 := prodI_pos (allR_take r3.out k)
        have P2 := prodI_take_le r3.out k
        have P3 := prodI_take_le r3.out (k + 1)
        have P4 := prodI_pos (allR_take r3.out (k + 1))
        have hs := prodI_step zs k (by omega)
        rw [hs] at P3 P4
        replace hs := Lib.hid hs
        obtain ⟨x1, x2⟩ := allR_getD r3.out k (by omega)
        generalize zs.getD k 0 = x at *
        generalize prodI (zs.take k) = t at *
        generalize prodI zs = T at *
        have q3 : t * x ≤ 65536 := by omega
        have q4 : 0 ≤ t * x := by omega
        clear P3 P4 h1 h3
        go_wp2_with fail
        go_round
        case rel => exact ⟨k + 1, by omega, by go_num, by rw [hs.out]⟩
        case measure => (simp [intOf]; try omega)
    · have e : zs.take k = zs := List.take_of_length_le (by omega)
      rw [e]
      obtain ⟨t, ht⟩ : ∃ t, prodI zs = t := ⟨_, rfl⟩
      rw [ht]
      replace ht := Lib.hid ht
      clear h1 h3 h4 e
      go_wp2_with fail
      go_ret
      exact ⟨ret_int ht.out.symm, rfl⟩

theorem IntsAt.take {w : World} {a : Option Addr} {len : Nat} {zs : List Int} (h : IntsAt w a len zs) (k : Nat) (hk : k ≤ len) : IntsAt w a k (zs.take k) := by
  obtain ⟨h1, h2, h3, h4⟩ := h
  refine ⟨by rw [List.length_take, h1]; omega, by omega, fun n hn => h3 n (List.mem_of_mem_take hn), ?_⟩
  rcases h4 with h4 | ⟨b, off, ha, hc⟩
  · exact .inl (by omega)
  · refine .inr ⟨b, off, ha, fun j hj => ?_⟩
    rw [hc j (by omega)]
    simp [List.getD, List.getElem?_take, hj]
theorem prodI_drop_le {hi : Int} {l : List Int} (h : allR 1 hi l = true) (k : Nat) : prodI (l.drop k) ≤ prodI l := by
  have e : prodI l = prodI (l.take k) * prodI (l.drop k) := by rw [← prodI_append, List.take_append_drop]
  have h1 := prodI_pos (allR_drop h k)
  have h2 := prodI_pos (allR_take h k)
  have h3 : 1 * prodI (l.drop k) ≤ prodI (l.take k) * prodI (l.drop k) := Int.mul_le_mul_of_nonneg_right h2 (by omega)
  omega

set_option maxHeartbeats 2000000 in
theorem parts_any (sa : Option Addr) (sl sc : Nat) (ss : List Int) (k : Nat) (w : World) (h : IntsAt w sa sl ss) (hk : k < sl) (hcap : sl ≤ sc) (hcm : sc ≤ 9223372036854775807) (hr : rightS ss = true) :
    Calls Try.prog 36 #[.slice sa sl sc, .int .i64 k] w fun e w' => e = .returned (.tuple #[.int .i64 (prodI (ss.take k)), .int .i64 (prodI (ss.drop (k + 1)))]) ∧ ∃ n, w' = w.drewN n := by
  obtain ⟨-, hl4, hall, hp⟩ := rightS_parts hr
  have hsl := h.1
  obtain ⟨b, off, rfl⟩ : ∃ b off, sa = some ⟨b, off, none⟩ := by
    rcases h.2.2.2 with h5 | ⟨b, off, ha, _⟩
    · omega
    · exact ⟨b, off, ha⟩
  have kd := fun n => h.kept (below_drewN' (Below.refl w.heap.size w) n)
  have p1 := prodI_take_le hall k
  have p2 := prodI_drop_le hall (k + 1)
  have C1 := fun n (c : Nat) => flipW (refsize_part (some ⟨b, off, none⟩) k c (ss.take k) (w.drewN n) ((kd n).take k (by omega)) (allR_take hall k) (by rw [List.length_take]; omega) (by omega))
  have C2 := fun n (c : Nat) => flipW (refsize_part (some ⟨b, off + (k + 1), none⟩) (sl - (k + 1)) c (ss.drop (k + 1)) (w.drewN n) ((kd n).drop (k + 1) (by omega)) (allR_drop hall _) (by rw [List.length_drop]; omega) (by omega))
  have C3 := fun n (c : Nat) (hz : sl - (k + 1) = 0) => flipW (refsize_part (some ⟨b, off, none⟩) 0 c (ss.drop (k + 1)) (w.drewN n) ⟨by rw [List.length_drop]; omega, by omega, fun q hq => (kd n).2.2.1 q (List.mem_of_mem_drop hq), .inl rfl⟩ (allR_drop hall _) (by rw [List.length_drop]; omega) (by omega))
  obtain ⟨X, hX⟩ : ∃ X, prodI (ss.take k) = X := ⟨_, rfl⟩
  obtain ⟨Y, hY⟩ : ∃ Y, prodI (ss.drop (k + 1)) = Y := ⟨_, rfl⟩
  rw [hX] at C1
  rw [hY] at C2 C3
  rw [hX, hY]
  have D1 := Lib.hid C1
  have D2 := Lib.hid C2
  have D3 := Lib.hid C3
  have hsl4 : sl ≤ 4 := by omega
  have w1 : IntKind.i64.wrap ((k : Int) + 1) = ((k + 1 : Nat) : Int) := by rw [IntWalk.i64_in _ (by omega)]; simp
  clear h C1 C2 C3 kd hr hall hp p1 p2 hX hY hsl hl4
  by_cases hsc : sc = k + 1
  · subst hsc
    have hz : sl - (k + 1) = 0 := by omega
    have E := Lib.hid (fun n c => D3.out n c hz)
    have e1 : sl = k + 1 := by omega
    subst e1
    go_enter Try.func36, Try.ntmps36
    go_wp2_with fail
    go_quiet ((first | (go_at_call 22; with_reducible exact Calls.quiet_of_same (D1.out _ _)) | (go_at_call 22; with_reducible exact Calls.quiet_of_same (E.out _ _))))
    go_wp2_with fail
    go_ret2
    exact ⟨rfl, _, rfl⟩
  · go_enter Try.func36, Try.ntmps36
    go_wp2_with fail
    go_quiet ((first | (go_at_call 22; with_reducible exact Calls.quiet_of_same (D1.out _ _)) | (go_at_call 22; with_reducible exact Calls.quiet_of_same (D2.out _ _))))
    go_wp2_with fail
    go_ret2
    exact ⟨rfl, _, rfl⟩

end Go.Proofs.Ytieegaojcjhfdaa
/-
  Contracts of the reference of layer 4 and of the statements' file: Cut; same.
-/
namespace Go.Proofs.Ytieegaojcjhfdaa
open Go.RowKit
set_option linter.unusedVariables false
set_option linter.unusedSimpArgs false

/-- The list under way: whole blocks, and the first c numbers of the next part. -/
def midP (cs : List Int) (n lo wd a c : Nat) : List Int := cutP cs n lo wd a ++ (cs.drop (a * n + lo)).take c
theorem midP_zero (cs : List Int) (n lo wd a : Nat) : midP cs n lo wd a 0 = cutP cs n lo wd a := by simp [midP]
theorem midP_full (cs : List Int) (n lo wd a : Nat) : midP cs n lo wd a wd = cutP cs n lo wd (a + 1) := rfl
theorem midP_snoc {cs : List Int} {n lo wd a c : Nat} (h : a * n + lo + c < cs.length) : midP cs n lo wd a (c + 1) = midP cs n lo wd a c ++ [cs.getD (a * n + lo + c) 0] := by
  unfold midP; rw [take_more _ _ h, List.append_assoc]

end Go.Proofs.Ytieegaojcjhfdaa
/-
  Opening arguments: a struct of fields of one cell each, by value, whatever their number; a slice of integers and an integer among its fields.
-/
namespace Go.Proofs.Ytieegaojcjhfdaa
open Go.RowKit Go.ChangeShapes Go.WideShapes Go.Deep
set_option linter.unusedVariables false
set_option linter.unusedSimpArgs false
section
variable {H : Type} {enc : TypeId × Value → H} {P : Program} {w : World} {base : Nat} {spare : Nat → Bool} {held : Bool}

theorem agg_open {r : Reach} {b0 : Nat} {t : TypeId} {fs : Array Field} {v : Value} {d : DataW H} {p : List MemPlace} (hs : P.underlying t = some (.struct fs)) (hone : oneCellFields P fs = true) (hC : P.cellsOf t = fs.size)
    (hv : Value.okWide P w r b0 t v) (h : DataW.Trod enc P w base spare held t v d p) :
    ∃ (cs : List Value) (n : Nat), v = .agg cs.toArray ∧ cs.length = fs.size ∧ ∀ (j : Nat) (f : Field), fs[j]? = some f → ∃ c y, cs[j]? = some c ∧ DataW.trod enc P w base spare held n f.type [c] = some y := by
  obtain ⟨⟨l⟩, rfl, hsz⟩ := okWide_struct hs hv
  obtain ⟨fuel, hf⟩ := h
  obtain ⟨xs, n, -, -, -, hxl, hat⟩ := DataW.trod_struct hs hf
  have hl : l.length = fs.size := hsz.trans hC
  refine ⟨l, n, rfl, hl, fun j f hj => ?_⟩
  have hlt : j < fs.size := (Array.getElem?_eq_some_iff.1 hj).1
  obtain ⟨ho, hk⟩ := hone_of hone j f hj
  have h1 := hat j f hj
  have e : ((Value.agg l.toArray).cells.toList.drop f.offset).take (P.cellsOf f.type) = [l[j]'(by omega)] := by
    rw [ho, hk]
    show (l.drop j).take 1 = _
    rw [List.drop_eq_getElem_cons (by omega)]
    rfl
  rw [e, List.getElem?_eq_getElem (by omega : j < xs.length)] at h1
  exact ⟨_, _, List.getElem?_eq_getElem (by omega), h1⟩

theorem field_ints {t e : TypeId} {fuel : Nat} {c : Value} {x : DataW H × List MemPlace} (ht : P.underlying t = some (.slice e)) (he : P.underlying e = some (.int .i64)) (hc : P.cellsOf e = 1)
    (h : DataW.trod enc P w base spare held fuel t [c] = some x) : ∃ a len cap zs, c = .slice a len cap ∧ IntsAt w a len zs := by
  rcases open_ints ht he hc h with ⟨hcs, -⟩ | ⟨a, len, cap, zs, hcs, -, hl, hm, hz, -, hcell, hwz⟩
  · obtain rfl := (List.cons.inj hcs).1
    exact ⟨_, _, _, _, rfl, IntsAt.nil _ _⟩
  · obtain rfl := (List.cons.inj hcs).1
    refine ⟨_, _, cap, zs.take len, rfl, ?_⟩
    by_cases hs : zs.length = cap
    · exact IntsAt.of_row hl hm hs hcell hwz
    · have hz' : zs.length = len := by
        split at hz
        · exact absurd hz hs
        · exact hz
      exact IntsAt.of_row (cap := len) (Nat.le_refl _) (by omega) hz' hcell hwz

theorem field_int {t : TypeId} {fuel : Nat} {c : Value} {x : DataW H × List MemPlace} (ht : P.underlying t = some (.int .i64))
    (h : DataW.trod enc P w base spare held fuel t [c] = some x) : ∃ n, c = .int .i64 n ∧ -9223372036854775808 ≤ n ∧ n ≤ 9223372036854775807 := by
  obtain ⟨n, hcs, -, hw⟩ := DataW.trod_int ht h
  obtain rfl := (List.cons.inj hcs).1
  exact ⟨n, rfl, bounds_i64 hw⟩
end
theorem list2 {α : Type} {l : List α} {a0 a1 : α} (h : l.length = 2) (h0 : l[0]? = some a0) (h1 : l[1]? = some a1) : l = [a0, a1] := by
  match l, h with
  | [_, _], _ => simp_all
theorem list3 {α : Type} {l : List α} {a0 a1 a2 : α} (h : l.length = 3) (h0 : l[0]? = some a0) (h1 : l[1]? = some a1) (h2 : l[2]? = some a2) : l = [a0, a1, a2] := by
  match l, h with
  | [_, _, _], _ => simp_all
theorem list4 {α : Type} {l : List α} {a0 a1 a2 a3 : α} (h : l.length = 4) (h0 : l[0]? = some a0) (h1 : l[1]? = some a1) (h2 : l[2]? = some a2) (h3 : l[3]? = some a3) : l = [a0, a1, a2, a3] := by
  match l, h with
  | [_, _, _, _], _ => simp_all
theorem list5 {α : Type} {l : List α} {a0 a1 a2 a3 a4 : α} (h : l.length = 5) (h0 : l[0]? = some a0) (h1 : l[1]? = some a1) (h2 : l[2]? = some a2) (h3 : l[3]? = some a3) (h4 : l[4]? = some a4) : l = [a0, a1, a2, a3, a4] := by
  match l, h with
  | [_, _, _, _, _], _ => simp_all
theorem list6 {α : Type} {l : List α} {a0 a1 a2 a3 a4 a5 : α} (h : l.length = 6) (h0 : l[0]? = some a0) (h1 : l[1]? = some a1) (h2 : l[2]? = some a2) (h3 : l[3]? = some a3) (h4 : l[4]? = some a4) (h5 : l[5]? = some a5) : l = [a0, a1, a2, a3, a4, a5] := by
  match l, h with
  | [_, _, _, _, _, _], _ => simp_all
theorem list7 {α : Type} {l : List α} {a0 a1 a2 a3 a4 a5 a6 : α} (h : l.length = 7) (h0 : l[0]? = some a0) (h1 : l[1]? = some a1) (h2 : l[2]? = some a2) (h3 : l[3]? = some a3) (h4 : l[4]? = some a4) (h5 : l[5]? = some a5) (h6 : l[6]? = some a6) : l = [a0, a1, a2, a3, a4, a5, a6] := by
  match l, h with
  | [_, _, _, _, _, _, _], _ => simp_all
theorem list8 {α : Type} {l : List α} {a0 a1 a2 a3 a4 a5 a6 a7 : α} (h : l.length = 8) (h0 : l[0]? = some a0) (h1 : l[1]? = some a1) (h2 : l[2]? = some a2) (h3 : l[3]? = some a3) (h4 : l[4]? = some a4) (h5 : l[5]? = some a5) (h6 : l[6]? = some a6) (h7 : l[7]? = some a7) : l = [a0, a1, a2, a3, a4, a5, a6, a7] := by
  match l, h with
  | [_, _, _, _, _, _, _, _], _ => simp_all
end Go.Proofs.Ytieegaojcjhfdaa

/-
  The argument of the statements on two tensors: a struct of two tensors and three numbers, as a value and in a block.
-/
namespace Go.Proofs.Ytieegaojcjhfdaa
open Go.RowKit Go.ChangeShapes Go.WideShapes Go.Deep
set_option linter.unusedVariables false
set_option linter.unusedSimpArgs false

section
variable {w w' : World} {B : Nat} {s c s2 c2 a b d : Value}
end
section
variable {H : Type} {enc : TypeId × Value → H} {P : Program} {w : World} {base : Nat} {spare : Nat → Bool} {held : Bool}
theorem agg_nested {r : Reach} {b0 : Nat} {t : TypeId} {fs : Array Field} {v : Value} {d : DataW H} {p : List MemPlace} (hs : P.underlying t = some (.struct fs))
    (hv : Value.okWide P w r b0 t v) (h : DataW.Trod enc P w base spare held t v d p) :
    ∃ (cs : List Value) (n : Nat), v = .agg cs.toArray ∧ cs.length = P.cellsOf t ∧ ∀ (j : Nat) (f : Field), fs[j]? = some f → ∃ y, DataW.trod enc P w base spare held n f.type ((cs.drop f.offset).take (P.cellsOf f.type)) = some y := by
  obtain ⟨⟨l⟩, rfl, hsz⟩ := okWide_struct hs hv
  obtain ⟨fuel, hf⟩ := h
  obtain ⟨xs, n, -, -, -, hxl, hat⟩ := DataW.trod_struct hs hf
  refine ⟨l, n, rfl, hsz, fun j f hj => ?_⟩
  have hlt : j < fs.size := (Array.getElem?_eq_some_iff.1 hj).1
  have h1 := hat j f hj
  rw [List.getElem?_eq_getElem (by omega : j < xs.length)] at h1
  exact ⟨_, h1⟩
theorem struct_field {t : TypeId} {fs : Array Field} {fuel : Nat} {cs : List Value} {x : DataW H × List MemPlace} (hs : P.underlying t = some (.struct fs)) (h : DataW.trod enc P w base spare held fuel t cs = some x) :
    ∃ n, ∀ (j : Nat) (f : Field), fs[j]? = some f → ∃ y, DataW.trod enc P w base spare held n f.type ((cs.drop f.offset).take (P.cellsOf f.type)) = some y := by
  obtain ⟨xs, n, -, -, -, hxl, hat⟩ := DataW.trod_struct hs h
  refine ⟨n, fun j f hj => ?_⟩
  have hlt : j < fs.size := (Array.getElem?_eq_some_iff.1 hj).1
  have h1 := hat j f hj
  rw [List.getElem?_eq_getElem (by omega : j < xs.length)] at h1
  exact ⟨_, h1⟩
end

theorem cellsS : Try.prog.cellsOf 26 = 1 := by kernel_rfl
theorem cellsF : Try.prog.cellsOf 27 = 1 := by kernel_rfl
theorem cellsG : Try.prog.cellsOf 29 = 2 := by kernel_rfl
theorem cellsI : Try.prog.cellsOf 3 = 1 := by kernel_rfl
theorem grid_cells {H : Type} {enc : TypeId × Value → H} {w : World} {base : Nat} {spare : Nat → Bool} {held : Bool} {fuel : Nat} {c0 c1 : Value} {x : DataW H × List MemPlace}
    (h : DataW.trod enc Try.prog w base spare held fuel 29 [c0, c1] = some x) :
    ∃ sa sl sc ss ca cl cc cs, c0 = .slice sa sl sc ∧ c1 = .slice ca cl cc ∧ IntsAt w sa sl ss ∧ IntsAt w ca cl cs := by
  obtain ⟨n, hf⟩ := struct_field Try.underlying29 h
  obtain ⟨y0, h0⟩ := hf 0 _ rfl
  obtain ⟨y1, h1⟩ := hf 1 _ rfl
  have g0 : DataW.trod enc Try.prog w base spare held n 26 (([c0, c1].drop 0).take (Try.prog.cellsOf 26)) = some y0 := h0
  have g1 : DataW.trod enc Try.prog w base spare held n 27 (([c0, c1].drop 1).take (Try.prog.cellsOf 27)) = some y1 := h1
  rw [cellsS] at g0
  rw [cellsF] at g1
  replace g0 : DataW.trod enc Try.prog w base spare held n 26 [c0] = some y0 := g0
  replace g1 : DataW.trod enc Try.prog w base spare held n 27 [c1] = some y1 := g1
  obtain ⟨sa, sl, sc, ss, rfl, w0⟩ := field_ints Try.underlying26 Try.underlying3 (by kernel_rfl) g0
  obtain ⟨ca, cl, cc, cs, rfl, w1⟩ := field_ints Try.underlying27 Try.underlying35 (by kernel_rfl) g1
  exact ⟨sa, sl, sc, ss, ca, cl, cc, cs, rfl, rfl, w0, w1⟩

end Go.Proofs.Ytieegaojcjhfdaa
/-
  The struct of two tensors opened with its capacities; the statements' file: same.
-/
namespace Go.Proofs.Ytieegaojcjhfdaa
open Go.RowKit Go.ChangeShapes Go.WideShapes Go.Deep
set_option linter.unusedVariables false
set_option linter.unusedSimpArgs false

/-- A slice's length is at most its capacity, and that fits. -/
def Capped (len cap : Nat) : Prop := len ≤ cap ∧ cap ≤ 9223372036854775807

theorem field_ints2 {H : Type} {enc : TypeId × Value → H} {P : Program} {w : World} {base : Nat} {spare : Nat → Bool} {held : Bool} {t e : TypeId} {fuel : Nat} {c : Value} {x : DataW H × List MemPlace} (ht : P.underlying t = some (.slice e)) (he : P.underlying e = some (.int .i64)) (hc : P.cellsOf e = 1)
    (h : DataW.trod enc P w base spare held fuel t [c] = some x) : ∃ a len cap zs, c = .slice a len cap ∧ IntsAt w a len zs ∧ Capped len cap := by
  rcases open_ints ht he hc h with ⟨hcs, -⟩ | ⟨a, len, cap, zs, hcs, -, hl, hm, hz, -, hcell, hwz⟩
  · obtain rfl := (List.cons.inj hcs).1
    exact ⟨_, _, _, _, rfl, IntsAt.nil _ _, Nat.le_refl _, by omega⟩
  · obtain rfl := (List.cons.inj hcs).1
    have hm' : cap ≤ 9223372036854775807 := by have := hm; unfold maxLen at this; omega
    refine ⟨_, _, cap, zs.take len, rfl, ?_, hl, hm'⟩
    by_cases hs : zs.length = cap
    · exact IntsAt.of_row hl hm hs hcell hwz
    · have hz' : zs.length = len := by
        split at hz
        · exact absurd hz hs
        · exact hz
      exact IntsAt.of_row (cap := len) (Nat.le_refl _) (by omega) hz' hcell hwz

theorem grid_cells2 {H : Type} {enc : TypeId × Value → H} {w : World} {base : Nat} {spare : Nat → Bool} {held : Bool} {fuel : Nat} {c0 c1 : Value} {x : DataW H × List MemPlace}
    (h : DataW.trod enc Try.prog w base spare held fuel 29 [c0, c1] = some x) :
    ∃ sa sl sc ss ca cl cc cs, c0 = .slice sa sl sc ∧ c1 = .slice ca cl cc ∧ (IntsAt w sa sl ss ∧ Capped sl sc) ∧ (IntsAt w ca cl cs ∧ Capped cl cc) := by
  obtain ⟨n, hf⟩ := struct_field Try.underlying29 h
  obtain ⟨y0, h0⟩ := hf 0 _ rfl
  obtain ⟨y1, h1⟩ := hf 1 _ rfl
  have g0 : DataW.trod enc Try.prog w base spare held n 26 (([c0, c1].drop 0).take (Try.prog.cellsOf 26)) = some y0 := h0
  have g1 : DataW.trod enc Try.prog w base spare held n 27 (([c0, c1].drop 1).take (Try.prog.cellsOf 27)) = some y1 := h1
  rw [cellsS] at g0
  rw [cellsF] at g1
  replace g0 : DataW.trod enc Try.prog w base spare held n 26 [c0] = some y0 := g0
  replace g1 : DataW.trod enc Try.prog w base spare held n 27 [c1] = some y1 := g1
  obtain ⟨sa, sl, sc, ss, rfl, w0, p0⟩ := field_ints2 Try.underlying26 Try.underlying3 (by kernel_rfl) g0
  obtain ⟨ca, cl, cc, cs, rfl, w1, p1⟩ := field_ints2 Try.underlying27 Try.underlying35 (by kernel_rfl) g1
  exact ⟨sa, sl, sc, ss, ca, cl, cc, cs, rfl, rfl, ⟨w0, p0⟩, ⟨w1, p1⟩⟩

def In64I (n : Int) : Prop := -9223372036854775808 ≤ n ∧ n ≤ 9223372036854775807

end Go.Proofs.Ytieegaojcjhfdaa
/-
  Contracts of package tensor: Join.
-/
namespace Go.Proofs.Ytieegaojcjhfdaa
open Go.RowKit
set_option linter.unusedVariables false
set_option linter.unusedSimpArgs false

/-- The cells of a join: block by block n of the one and m of the other. -/
def joinP (cs ds : List Int) (n m : Nat) : Nat → List Int
  | 0 => []
  | j + 1 => joinP cs ds n m j ++ ((cs.drop (j * n)).take n ++ (ds.drop (j * m)).take m)
theorem joinP_length {cs ds : List Int} {n m : Nat} : ∀ M, M * n ≤ cs.length → M * m ≤ ds.length → (joinP cs ds n m M).length = M * (n + m) := by
  intro M
  induction M with
  | zero => intro _ _; simp [joinP]
  | succ M ih =>
    intro h1 h2
    rw [Nat.succ_mul] at h1 h2
    simp only [joinP, List.length_append, List.length_take, List.length_drop]
    rw [ih (by omega) (by omega), Nat.succ_mul]
    omega
theorem joinP_fits {cs ds : List Int} (h : Fits cs) (h' : Fits ds) (n m : Nat) : ∀ M, Fits (joinP cs ds n m M) := by
  intro M
  induction M with
  | zero => intro q hq; simp [joinP] at hq
  | succ M ih =>
    intro q hq
    rcases List.mem_append.1 hq with hq | hq
    · exact ih q hq
    · rcases List.mem_append.1 hq with hq | hq
      · exact h q (List.mem_of_mem_drop (List.mem_of_mem_take hq))
      · exact h' q (List.mem_of_mem_drop (List.mem_of_mem_take hq))

set_option maxHeartbeats 2000000 in
theorem joinT_wrong1 (sa : Option Addr) (sl sc : Nat) (ss : List Int) (ca : Option Addr) (cl cc : Nat) (sa2 : Option Addr) (sl2 sc2 : Nat) (ss2 : List Int) (ca2 : Option Addr) (cl2 cc2 : Nat) (side : Int) (w : World) (h : IntsAt w sa sl ss) (hl : cl ≤ 9223372036854775807) (h2 : IntsAt w sa2 sl2 ss2) (hl2 : cl2 ≤ 9223372036854775807) (hr : rightT ss cl = false) :
    Calls Try.prog 12 #[.agg #[.slice sa sl sc, .slice ca cl cc], .agg #[.slice sa2 sl2 sc2, .slice ca2 cl2 cc2], .int .i64 side] w (NilT w 20) := by
  obtain ⟨wA, hwA, J1, z1, n1⟩ := grid_box w (.slice sa sl sc) (.slice ca cl cc)
  obtain ⟨wA2, hwA2, J1b, z1b, n1b⟩ := grid_box wA (.slice sa2 sl2 sc2) (.slice ca2 cl2 cc2)
  obtain ⟨wB, hwB, J2, z2, n2⟩ := grid_box wA2 (.slice none 0 0) (.slice none 0 0)
  rw [n1.out] at J1b
  rw [n1b.out, n1.out] at J2
  have z12 := z1.out.trans (z1b.out.mono z1.out.size)
  have z := Lib.hid (z12.trans (z2.out.mono z12.size))
  have J := Lib.hid ((J1.out.kept z1b.out).kept z2.out)
  have Jb := Lib.hid (J1b.out.kept z2.out)
  have C1 := Lib.hid (fun w1 (hb : Below wB.heap.size wB w1) => tright_any sa sl sc ss ca cl cc w1 ((h.kept z.out).kept hb) hl)
  have C2 := Lib.hid (fun w1 (hb : Below wB.heap.size wB w1) => tright_any sa2 sl2 sc2 ss2 ca2 cl2 cc2 w1 ((h2.kept z.out).kept hb) hl2)
  rw [hr] at C1
  clear h h2 J1 J1b hr z12 C2
  obtain ⟨j0, j1, -, -⟩ := J.out.see
  go_enter Try.func12, Try.ntmps12
  go_upto_region 1 with (fail)
  rw [hwA.out, hwA2.out, hwB.out]
  go_wp2_with fail
  refine (C1.out _ (Below.refl _ _)).mono ?_
  rintro e w1 ⟨rfl, hb1⟩
  obtain ⟨e0, e1, f0, f1⟩ := (J2.out.kept hb1).see
  obtain ⟨h0, h1, -, -⟩ := ((J2.out.kept hb1).set (.slice none 0 0) (.slice none 0 0)).see
  have Z : Below w.heap.size w ((w1.setCell ⟨w.heap.size + 1 + 1, 0, none⟩ (.slice none 0 0)).setCell ⟨w.heap.size + 1 + 1, 1, none⟩ (.slice none 0 0)) :=
    ((z.out.trans (hb1.mono z.out.size)).setCell (show w.heap.size ≤ w.heap.size + 1 + 1 by omega) _).setCell (show w.heap.size ≤ w.heap.size + 1 + 1 by omega) _
  go_wp2_with fail
  refine bodyPost_ret (v := .tuple #[.agg #[.slice none 0 0, .slice none 0 0], .int .i64 20]) ?_ rfl ⟨rfl, Z⟩
  simp [results, Try.results12, go_sem, h0, h1]

set_option maxHeartbeats 2000000 in
theorem joinT_wrong2 (sa : Option Addr) (sl sc : Nat) (ss : List Int) (ca : Option Addr) (cl cc : Nat) (sa2 : Option Addr) (sl2 sc2 : Nat) (ss2 : List Int) (ca2 : Option Addr) (cl2 cc2 : Nat) (side : Int) (w : World) (h : IntsAt w sa sl ss) (hl : cl ≤ 9223372036854775807) (h2 : IntsAt w sa2 sl2 ss2) (hl2 : cl2 ≤ 9223372036854775807) (hr : rightT ss cl = true) (hr2 : rightT ss2 cl2 = false) :
    Calls Try.prog 12 #[.agg #[.slice sa sl sc, .slice ca cl cc], .agg #[.slice sa2 sl2 sc2, .slice ca2 cl2 cc2], .int .i64 side] w (NilT w 20) := by
  obtain ⟨wA, hwA, J1, z1, n1⟩ := grid_box w (.slice sa sl sc) (.slice ca cl cc)
  obtain ⟨wA2, hwA2, J1b, z1b, n1b⟩ := grid_box wA (.slice sa2 sl2 sc2) (.slice ca2 cl2 cc2)
  obtain ⟨wB, hwB, J2, z2, n2⟩ := grid_box wA2 (.slice none 0 0) (.slice none 0 0)
  rw [n1.out] at J1b
  rw [n1b.out, n1.out] at J2
  have z12 := z1.out.trans (z1b.out.mono z1.out.size)
  have z := Lib.hid (z12.trans (z2.out.mono z12.size))
  have J := Lib.hid ((J1.out.kept z1b.out).kept z2.out)
  have Jb := Lib.hid (J1b.out.kept z2.out)
  have C1 := Lib.hid (fun w1 (hb : Below wB.heap.size wB w1) => tright_any sa sl sc ss ca cl cc w1 ((h.kept z.out).kept hb) hl)
  have C2 := Lib.hid (fun w1 (hb : Below wB.heap.size wB w1) => tright_any sa2 sl2 sc2 ss2 ca2 cl2 cc2 w1 ((h2.kept z.out).kept hb) hl2)
  rw [hr] at C1
  rw [hr2] at C2
  clear h h2 J1 J1b hr hr2 z12
  obtain ⟨j0, j1, -, -⟩ := J.out.see
  go_enter Try.func12, Try.ntmps12
  go_upto_region 1 with (fail)
  rw [hwA.out, hwA2.out, hwB.out]
  go_wp2_with fail
  refine (C1.out _ (Below.refl _ _)).mono ?_
  rintro e w1 ⟨rfl, hb1⟩
  obtain ⟨k0, k1, -, -⟩ := (Jb.out.kept hb1).see
  go_wp2_with fail
  refine (C2.out w1 hb1).mono ?_
  rintro e w2 ⟨rfl, hb2⟩
  have hb := hb1.trans (hb2.mono hb1.size)
  obtain ⟨e0, e1, f0, f1⟩ := (J2.out.kept hb).see
  obtain ⟨h0, h1, -, -⟩ := ((J2.out.kept hb).set (.slice none 0 0) (.slice none 0 0)).see
  have Z : Below w.heap.size w ((w2.setCell ⟨w.heap.size + 1 + 1, 0, none⟩ (.slice none 0 0)).setCell ⟨w.heap.size + 1 + 1, 1, none⟩ (.slice none 0 0)) :=
    ((z.out.trans (hb.mono z.out.size)).setCell (show w.heap.size ≤ w.heap.size + 1 + 1 by omega) _).setCell (show w.heap.size ≤ w.heap.size + 1 + 1 by omega) _
  go_wp2_with fail
  refine bodyPost_ret (v := .tuple #[.agg #[.slice none 0 0, .slice none 0 0], .int .i64 20]) ?_ rfl ⟨rfl, Z⟩
  simp [results, Try.results12, go_sem, h0, h1]

set_option maxHeartbeats 2000000 in
theorem joinT_none (sa : Option Addr) (sl sc : Nat) (ss : List Int) (ca : Option Addr) (cl cc : Nat) (sa2 : Option Addr) (sl2 sc2 : Nat) (ss2 : List Int) (ca2 : Option Addr) (cl2 cc2 : Nat) (side x : Int) (w : World) (h : IntsAt w sa sl ss) (hl : cl ≤ 9223372036854775807) (h2 : IntsAt w sa2 sl2 ss2) (hl2 : cl2 ≤ 9223372036854775807) (hr : rightT ss cl = true) (hr2 : rightT ss2 cl2 = true) (hx : x ≠ 0)
    (HJ : ∀ w1, Below w.heap.size w w1 → Calls Try.prog 27 #[.slice sa sl sc, .slice sa2 sl2 sc2, .int .i64 side] w1 (NilE w1 x)) :
    Calls Try.prog 12 #[.agg #[.slice sa sl sc, .slice ca cl cc], .agg #[.slice sa2 sl2 sc2, .slice ca2 cl2 cc2], .int .i64 side] w (NilT w x) := by
  obtain ⟨wA, hwA, J1, z1, n1⟩ := grid_box w (.slice sa sl sc) (.slice ca cl cc)
  obtain ⟨wA2, hwA2, J1b, z1b, n1b⟩ := grid_box wA (.slice sa2 sl2 sc2) (.slice ca2 cl2 cc2)
  obtain ⟨wB, hwB, J2, z2, n2⟩ := grid_box wA2 (.slice none 0 0) (.slice none 0 0)
  rw [n1.out] at J1b
  rw [n1b.out, n1.out] at J2
  have z12 := z1.out.trans (z1b.out.mono z1.out.size)
  have z := Lib.hid (z12.trans (z2.out.mono z12.size))
  have J := Lib.hid ((J1.out.kept z1b.out).kept z2.out)
  have Jb := Lib.hid (J1b.out.kept z2.out)
  have C1 := Lib.hid (fun w1 (hb : Below wB.heap.size wB w1) => tright_any sa sl sc ss ca cl cc w1 ((h.kept z.out).kept hb) hl)
  have C2 := Lib.hid (fun w1 (hb : Below wB.heap.size wB w1) => tright_any sa2 sl2 sc2 ss2 ca2 cl2 cc2 w1 ((h2.kept z.out).kept hb) hl2)
  rw [hr] at C1
  rw [hr2] at C2
  have D := Lib.hid (fun w1 (hb : Below wB.heap.size wB w1) => HJ w1 (z.out.trans (hb.mono z.out.size)))
  clear h h2 J1 J1b hr hr2 z12 HJ
  obtain ⟨j0, j1, -, -⟩ := J.out.see
  go_enter Try.func12, Try.ntmps12
  go_upto_region 1 with (fail)
  rw [hwA.out, hwA2.out, hwB.out]
  go_wp2_with fail
  refine (C1.out _ (Below.refl _ _)).mono ?_
  rintro e w1 ⟨rfl, hb1⟩
  obtain ⟨k0, k1, -, -⟩ := (Jb.out.kept hb1).see
  go_wp2_with fail
  refine (C2.out w1 hb1).mono ?_
  rintro e w2 ⟨rfl, hb2⟩
  have hb := hb1.trans (hb2.mono hb1.size)
  obtain ⟨l0, l1, -, -⟩ := (J.out.kept hb).see
  obtain ⟨m0, m1, -, -⟩ := (Jb.out.kept hb).see
  clear k0 k1
  go_wp2_with fail
  refine (D.out w2 hb).mono ?_
  rintro e w3 ⟨rfl, hb3⟩
  have hbb := hb.trans (hb3.mono hb.size)
  obtain ⟨e0, e1, f0, f1⟩ := (J2.out.kept hbb).see
  obtain ⟨h0, h1, -, -⟩ := ((J2.out.kept hbb).set (.slice none 0 0) (.slice none 0 0)).see
  have Z : Below w.heap.size w ((w3.setCell ⟨w.heap.size + 1 + 1, 0, none⟩ (.slice none 0 0)).setCell ⟨w.heap.size + 1 + 1, 1, none⟩ (.slice none 0 0)) :=
    ((z.out.trans (hbb.mono z.out.size)).setCell (show w.heap.size ≤ w.heap.size + 1 + 1 by omega) _).setCell (show w.heap.size ≤ w.heap.size + 1 + 1 by omega) _
  go_wp2_with fail
  refine bodyPost_ret (v := .tuple #[.agg #[.slice none 0 0, .slice none 0 0], .int .i64 x]) ?_ rfl ⟨rfl, Z⟩
  simp [results, Try.results12, go_sem, h0, h1]
end Go.Proofs.Ytieegaojcjhfdaa

/-
  Contracts of package tensor: Join, where the tensors fit.
-/
namespace Go.Proofs.Ytieegaojcjhfdaa
open Go.RowKit
set_option linter.unusedVariables false
set_option linter.unusedSimpArgs false

/-- What is to be appended is a part of a slice of numbers. -/
structure Tail (w0 wr : World) (L1 L0 : List Value) (t : Value) (len add : Nat) (ad : Addr) : Prop where
  row : wr.ownsRow w0.heap.size 35 1 t len L0
  long : L1.length = add * 1
  new : ∀ j u, L1[j]? = some u → wr.cell? (ad.add j) = some u
  one : ∀ u ∈ L1, u.oneCell' = true
  room : len + add ≤ maxLen
  bytes : (len + add) * 8 ≤ 140737488355328
  size : w0.heap.size ≤ wr.heap.size
theorem tail_of {w0 wr : World} {L0 : List Value} {t : Value} {len : Nat} {b off cl : Nat} {cs : List Int} (h : wr.ownsRow w0.heap.size 35 1 t len L0) (hb : Below w0.heap.size w0 wr) (hc : IntsAt wr (some ⟨b, off, none⟩) cl cs) (a m : Nat) (ha : a + m ≤ cl) (hl : len + m ≤ 10000) :
    Tail w0 wr (((cs.drop a).take m).map (Value.int .i64)) L0 t len m ⟨b, off + a, none⟩ :=
  ⟨h, by rw [List.length_map, List.length_take, List.length_drop, hc.1]; omega, piece_news hc a m, (by intro u hu; obtain ⟨y, _, rfl⟩ := List.mem_map.1 hu; rfl), by unfold maxLen; omega, by omega, hb.size⟩

set_option maxRecDepth 100000 in
set_option maxHeartbeats 4000000 in
theorem joinT_ok (sa : Option Addr) (sl sc : Nat) (ss : List Int) (ca : Option Addr) (cl cc : Nat) (cs : List Int) (sa2 : Option Addr) (sl2 sc2 : Nat) (ss2 : List Int) (ca2 : Option Addr) (cl2 cc2 : Nat) (ds : List Int) (k n m M : Nat) (S3 : List Int) (w : World)
    (h : IntsAt w sa sl ss) (hsc : Capped sl sc) (hc : IntsAt w ca cl cs) (hcc : Capped cl cc) (h2 : IntsAt w sa2 sl2 ss2) (hsc2 : Capped sl2 sc2) (hd : IntsAt w ca2 cl2 ds) (hcc2 : Capped cl2 cc2) (hl : cl ≤ 1000) (hl2 : cl2 ≤ 1000)
    (hT : rightT ss cl = true) (hT2 : rightT ss2 cl2 = true) (hk : k < sl) (hk2 : k < sl2)
    (hn : ss.getD k 0 * prodI (ss.drop (k + 1)) = n) (hM : prodI (ss.take k) = M) (hm : ss2.getD k 0 * prodI (ss2.drop (k + 1)) = m) (hM2 : prodI (ss2.take k) = M) (hL : cl = M * n) (hL2 : cl2 = M * m) (hM1 : 1 ≤ M)
    (HJ : ∀ w1, Below w.heap.size w w1 → Calls Try.prog 27 #[.slice sa sl sc, .slice sa2 sl2 sc2, .int .i64 k] w1 (NewE w1 sl S3)) :
    Calls Try.prog 12 #[.agg #[.slice sa sl sc, .slice ca cl cc], .agg #[.slice sa2 sl2 sc2, .slice ca2 cl2 cc2], .int .i64 k] w (OkT w sl S3 (M * (n + m)) (joinP cs ds n m M)) := by
  have hp1 := rightT_pos hT
  have hp2 := rightT_pos hT2
  obtain ⟨b, off, rfl⟩ : ∃ b off, ca = some ⟨b, off, none⟩ := by
    rcases hc.2.2.2 with h5 | ⟨b, off, ha, _⟩
    · omega
    · exact ⟨b, off, ha⟩
  obtain ⟨b2, off2, rfl⟩ : ∃ b off, ca2 = some ⟨b, off, none⟩ := by
    rcases hd.2.2.2 with h5 | ⟨b, off, ha, _⟩
    · omega
    · exact ⟨b, off, ha⟩
  obtain ⟨wA, hwA, J1, z1, n1⟩ := grid_box w (.slice sa sl sc) (.slice (some ⟨b, off, none⟩) cl cc)
  obtain ⟨wA2, hwA2, J1b, z1b, n1b⟩ := grid_box wA (.slice sa2 sl2 sc2) (.slice (some ⟨b2, off2, none⟩) cl2 cc2)
  obtain ⟨wB, hwB, J2, z2, n2⟩ := grid_box wA2 (.slice none 0 0) (.slice none 0 0)
  rw [n1.out] at J1b
  rw [n1b.out, n1.out] at J2
  have z12 := z1.out.trans (z1b.out.mono z1.out.size)
  have z := Lib.hid (z12.trans (z2.out.mono z12.size))
  have J := Lib.hid ((J1.out.kept z1b.out).kept z2.out)
  have Jb := Lib.hid (J1b.out.kept z2.out)
  have C1 := Lib.hid (fun w1 (hb : Below wB.heap.size wB w1) => tright_any sa sl sc ss (some ⟨b, off, none⟩) cl cc w1 ((h.kept z.out).kept hb) (by omega))
  have C2 := Lib.hid (fun w1 (hb : Below wB.heap.size wB w1) => tright_any sa2 sl2 sc2 ss2 (some ⟨b2, off2, none⟩) cl2 cc2 w1 ((h2.kept z.out).kept hb) (by omega))
  have D := Lib.hid (fun w1 (hb : Below wB.heap.size wB w1) => HJ w1 (z.out.trans (hb.mono z.out.size)))
  have B1 := Lib.hid (fun w1 (hb : Below wB.heap.size wB w1) => blocks_any sa sl sc ss b off cl cc k n M w1 ((h.kept z.out).kept hb) hsc.1 hsc.2 hT hk hcc.1 hcc.2 (by omega) hn hM)
  have B2 := Lib.hid (fun w1 (hb : Below wB.heap.size wB w1) => blocks_any sa2 sl2 sc2 ss2 b2 off2 cl2 cc2 k m M w1 ((h2.kept z.out).kept hb) hsc2.1 hsc2.2 hT2 hk2 hcc2.1 hcc2.2 (by omega) hm hM2)
  have HC := Lib.hid (fun w1 (hb : Below wB.heap.size wB w1) => (hc.kept z.out).kept hb)
  have HD := Lib.hid (fun w1 (hb : Below wB.heap.size wB w1) => (hd.kept z.out).kept hb)
  rw [hT] at C1
  rw [hT2] at C2
  have HL := Lib.hid hL
  have HL2 := Lib.hid hL2
  have hM6 : M ≤ 1000 := by
    have h0 : 0 < n := Nat.pos_of_ne_zero (by rintro rfl; simp at hL; omega)
    have := Nat.le_mul_of_pos_right M h0
    omega
  have hnm : 1 ≤ n + m := by
    have h0 : 0 < n := Nat.pos_of_ne_zero (by rintro rfl; simp at hL; omega)
    omega
  clear h hc h2 hd J1 J1b hT hT2 z12 HJ hn hM hm hM2 hL hL2 hp1 hp2
  obtain ⟨j0, j1, -, -⟩ := J.out.see
  go_enter Try.func12, Try.ntmps12
  go_upto_region 1 with (fail)
  rw [hwA.out, hwA2.out, hwB.out]
  go_wp2_with fail
  refine (C1.out _ (Below.refl _ _)).mono ?_
  rintro e w1 ⟨rfl, hb1⟩
  obtain ⟨k0, k1, -, -⟩ := (Jb.out.kept hb1).see
  go_wp2_with fail
  refine (C2.out w1 hb1).mono ?_
  rintro e w2 ⟨rfl, hb2⟩
  have c2 := Lib.hid (hb1.trans (hb2.mono hb1.size))
  clear k0 k1 hb1 hb2 j0 j1 C1 C2
  obtain ⟨l0, l1, -, -⟩ := (J.out.kept c2.out).see
  obtain ⟨m0, m1, -, -⟩ := (Jb.out.kept c2.out).see
  go_wp2_with fail
  refine (D.out w2 c2.out).mono ?_
  rintro e w3 ⟨A, c, rfl, ho3, hb3⟩
  have c3 := Lib.hid (c2.out.trans (hb3.mono c2.out.size))
  have o3 := Lib.hid ho3
  have b3 := Lib.hid hb3.size
  clear l0 l1 m0 m1 ho3 hb3 D
  obtain ⟨m0, m1, -, -⟩ := (Jb.out.kept c3.out).see
  go_wp2_with fail
  refine (B2.out w3 c3.out).mono ?_
  rintro e w4 ⟨bv, rfl, ho4, hb4⟩
  obtain ⟨g4, gc4, hv⟩ := Joins.ownsRow_form ho4 (by omega)
  subst hv
  have c4 := Lib.hid (c3.out.trans (hb4.mono c3.out.size))
  have o4 := Lib.hid ho4
  have b4 := Lib.hid hb4
  clear m0 m1 ho4 hb4 B2
  obtain ⟨l0, l1, -, -⟩ := (J.out.kept c4.out).see
  go_wp2_with fail
  refine (B1.out w4 c4.out).mono ?_
  rintro e w5 ⟨bv, rfl, ho5, hb5⟩
  obtain ⟨g5, gc5, hv⟩ := Joins.ownsRow_form ho5 (by omega)
  subst hv
  have c5 := Lib.hid (c4.out.trans (hb5.mono c4.out.size))
  have o5 := Lib.hid ho5
  have b5 := Lib.hid hb5
  clear l0 l1 ho5 hb5 B1
  obtain ⟨i0, hi, hz0, hz1, hz2⟩ := info_parts fInfo
  go_wp2_with fail
  go_loopw [11, 43] (fun tv iv wr => ∃ j : Nat, j ≤ M ∧ iv = .int .i64 j ∧ Hid (wr.ownsRow w5.heap.size 35 1 tv (j * (n + m)) ((joinP cs ds n m j).map (Value.int .i64))) ∧ Hid (Below w5.heap.size w5 wr)) (fun _ iv _ => M - (intOf iv).toNat)
  case atStart => exact ⟨0, Nat.zero_le _, rfl, Lib.hid (by rw [Nat.zero_mul]; exact World.ownsRow_nil _ _ _ _), Lib.hid (Below.refl _ _)⟩
  case round =>
    obtain ⟨j, hj, rfl, hrow, hbr⟩ := hrel
    by_cases hlt : j < M
    · have q5 := c5.out.trans (hbr.out.mono c5.out.size)
      have hcp : wr.cell? ⟨g5, j, none⟩ = some (.slice (some ⟨b, off + j * n, none⟩) n n) := by
        have e := o5.out.cellAt j (by omega)
        rw [List.getElem?_map, upL_get M 0 j hlt, Nat.zero_add] at e
        exact cell_later hbr.out e
      have hcq : ∀ w6, Below wr.heap.size wr w6 ∨ Below w5.heap.size w5 w6 → w6.cell? ⟨g4, j, none⟩ = some (.slice (some ⟨b2, off2 + j * m, none⟩) m m) := by
        intro w6 hw6
        have e := o4.out.cellAt j (by omega)
        rw [List.getElem?_map, upL_get M 0 j hlt, Nat.zero_add] at e
        have e5 : w5.cell? ⟨g4, j, none⟩ = _ := cell_later b5.out e
        rcases hw6 with h6 | h6
        · exact cell_later h6 (cell_later hbr.out e5)
        · exact cell_later h6 e5
      have HCQ := Lib.hid hcq
      have hjn := mul_room (n := n) hlt
      have hjm := mul_room (n := m) hlt
      have hjw : j * (n + m) + (n + m) ≤ 2000 := by
        rw [Nat.mul_add]
        have := HL.out
        have := HL2.out
        omega
      have T1 := tail_of hrow.out hbr.out (HC.out wr q5) (j * n) n (by rw [HL.out]; exact hjn) (by omega)
      obtain ⟨q, hq⟩ : ∃ q, off + j * n = q := ⟨_, rfl⟩
      rw [hq] at hcp T1
      obtain ⟨L1, hL1⟩ : ∃ L, ((cs.drop (j * n)).take n).map (Value.int .i64) = L := ⟨_, rfl⟩
      rw [hL1] at T1
      have HL1 := Lib.hid hL1
      obtain ⟨t1, t2, t3, t4, t5, t6, t7⟩ := T1
      have HJM := Lib.hid (And.intro hjm hjw)
      clear hq hL1 q5 hjn hjm hjw hcq
      go_wp2_with (at_builtin; refine wpList_append_own _ rfl _ _ 27 rfl w5.heap.size 35 i0 (.int .i64 0) 1 8 Try.underlying27 hi hz0 hz1 hz2 rfl (by decide) _ (j * (n + m)) _ rfl t1 ⟨b, q, none⟩ n n L1 rfl t2 t3 t4 t5 t6 t7 ?_)
      intro v' w6 hown hgrow hnil
      have hb6 := hbr.out.grown hgrow t7 (fun q' hq' => (t1.lt q' hq').1)
      have hc6 := HCQ.out w6 (.inr hb6)
      have T2 := tail_of hown hb6 (HD.out w6 (c5.out.trans (hb6.mono c5.out.size))) (j * m) m (by rw [HL2.out]; exact HJM.out.1) (by have := HJM.out.2; omega)
      obtain ⟨q2, hq2⟩ : ∃ q, off2 + j * m = q := ⟨_, rfl⟩
      rw [hq2] at hc6 T2
      obtain ⟨L2, hL2⟩ : ∃ L, ((ds.drop (j * m)).take m).map (Value.int .i64) = L := ⟨_, rfl⟩
      rw [hL2] at T2
      have HL2' := Lib.hid hL2
      have hb6' := Lib.hid hb6
      clear t1 t2 t3 t4 t5 t6 t7 hown hgrow hnil hq2 hL2 hb6 hcp
      obtain ⟨t1, t2, t3, t4, t5, t6, t7⟩ := T2
      go_wp2_with (at_builtin; refine wpList_append_own _ rfl _ _ 27 rfl w5.heap.size 35 i0 (.int .i64 0) 1 8 Try.underlying27 hi hz0 hz1 hz2 rfl (by decide) _ (j * (n + m) + n) _ rfl t1 ⟨b2, q2, none⟩ m m L2 rfl t2 t3 t4 t5 t6 t7 ?_)
      intro v2 w7 hown hgrow hnil
      have hb7 := Lib.hid (hb6'.out.grown hgrow t7 (fun q' hq' => (t1.lt q' hq').1))
      have e1 : j * (n + m) + n + m = (j + 1) * (n + m) := by rw [Nat.succ_mul, Nat.add_assoc]
      rw [← HL1.out, ← HL2'.out, ← List.map_append, ← List.map_append, e1] at hown
      have hown' := Lib.hid (show w7.ownsRow w5.heap.size 35 1 v2 ((j + 1) * (n + m)) ((joinP cs ds n m (j + 1)).map (Value.int .i64)) from hown)
      clear hown hgrow hnil t1 t2 t3 t4 t5 t6 t7 hc6 e1
      go_wp2_with fail
      go_roundw
      case rel => exact ⟨j + 1, by omega, by go_num, hown', hb7⟩
      case measure => (simp [intOf]; try omega)
    · obtain rfl : j = M := by omega
      have hMw : 1 ≤ j * (n + m) := Nat.mul_pos (by omega) hnm
      obtain ⟨g6, c6, hv6⟩ := Joins.ownsRow_form hrow.out (by omega)
      subst hv6
      have hbb := c5.out.trans (hbr.out.mono c5.out.size)
      have J4 := J2.out.kept hbb
      obtain ⟨e0, e1, f0, f1⟩ := J4.see
      obtain ⟨h0, h1, -, -⟩ := (J4.set (.slice A sl c) (.slice (some ⟨g6, 0, none⟩) (j * (n + m)) c6)).see
      have hsz1 : w.heap.size + 1 + 1 < w2.heap.size := by have := n1.out; have := n1b.out; have := n2.out; have := c2.out.size; omega
      have x3 := b3.out
      have x4 := b4.out.size
      have x5 := b5.out.size
      have P : NewT w sl S3 (j * (n + m)) (joinP cs ds n m j) (.agg #[.slice A sl c, .slice (some ⟨g6, 0, none⟩) (j * (n + m)) c6]) ((wr.setCell ⟨w.heap.size + 1 + 1, 0, none⟩ (.slice A sl c)).setCell ⟨w.heap.size + 1 + 1, 1, none⟩ (.slice (some ⟨g6, 0, none⟩) (j * (n + m)) c6)) := by
        have d45 : Below w3.heap.size w3 wr := (b4.out.trans (b5.out.mono x4)).trans (hbr.out.mono (Nat.le_trans x4 x5))
        refine ⟨A, c, _, c6, rfl, Joins.ownsRow_le (row_far (row_far (row_kept o3.out d45) ?_) ?_) (by omega), Joins.ownsRow_le (row_far (row_far hrow.out ?_) ?_) (by omega), ?_, ?_⟩
        · exact hsz1
        · exact hsz1
        · show w.heap.size + 1 + 1 < w5.heap.size
          omega
        · show w.heap.size + 1 + 1 < w5.heap.size
          omega
        · rintro p q rfl hq
          cases hq
          have y1 := (o3.out.lt p.block rfl).2
          have y2 := (hrow.out.lt g6 rfl).1
          show p.block ≠ g6
          omega
        · exact ((z.out.trans (hbb.mono z.out.size)).setCell (show w.heap.size ≤ w.heap.size + 1 + 1 by omega) _).setCell (show w.heap.size ≤ w.heap.size + 1 + 1 by omega) _
      have P' := Lib.hid P
      clear P J4 hsz1 hbb x3 x4 x5
      go_wp2_with fail
      refine bodyPost_ret (v := .tuple #[.agg #[.slice A sl c, .slice (some ⟨g6, 0, none⟩) (j * (n + m)) c6], .int .i64 0]) ?_ rfl ⟨_, rfl, P'.out⟩
      simp [results, Try.results12, go_sem, h0, h1]
end Go.Proofs.Ytieegaojcjhfdaa

/-
  Contract of the reference of layer 4: Join.
-/
namespace Go.Proofs.Ytieegaojcjhfdaa
open Go.RowKit
set_option linter.unusedVariables false
set_option linter.unusedSimpArgs false

theorem snoc_of2 {w0 wr : World} {L0 : List Value} {t : Value} {len : Nat} (x : Int) (h : wr.ownsRow w0.heap.size 2 1 t len L0) (hb : Below w0.heap.size w0 wr) (hl : len ≤ 2000) : Snoc w0 wr x L0 t len :=
  ⟨h.alloc _, box_cell wr x _, (by intro u hu; simp at hu; subst hu; rfl), by unfold maxLen; omega, by omega, by have := hb.size; simp; omega⟩

/-- The list under way. -/
def midJ1 (cs ds : List Int) (n m a e : Nat) : List Int := joinP cs ds n m a ++ (cs.drop (a * n)).take e
def midJ2 (cs ds : List Int) (n m a e : Nat) : List Int := midJ1 cs ds n m a n ++ (ds.drop (a * m)).take e
theorem midJ1_zero (cs ds : List Int) (n m a : Nat) : midJ1 cs ds n m a 0 = joinP cs ds n m a := by simp [midJ1]
theorem midJ2_zero (cs ds : List Int) (n m a : Nat) : midJ2 cs ds n m a 0 = midJ1 cs ds n m a n := by simp [midJ2]
theorem midJ2_full (cs ds : List Int) (n m a : Nat) : midJ2 cs ds n m a m = joinP cs ds n m (a + 1) := by simp [midJ2, midJ1, joinP]
theorem midJ1_snoc {cs ds : List Int} {n m a e : Nat} (h : a * n + e < cs.length) : midJ1 cs ds n m a (e + 1) = midJ1 cs ds n m a e ++ [cs.getD (a * n + e) 0] := by
  unfold midJ1; rw [take_more _ _ h, List.append_assoc]
theorem midJ2_snoc {cs ds : List Int} {n m a e : Nat} (h : a * m + e < ds.length) : midJ2 cs ds n m a (e + 1) = midJ2 cs ds n m a e ++ [ds.getD (a * m + e) 0] := by
  unfold midJ2; rw [take_more _ _ h, List.append_assoc]

end Go.Proofs.Ytieegaojcjhfdaa
/-
  What was joined is cut apart again: the lists.
-/
namespace Go.Proofs.Ytieegaojcjhfdaa
open Go.RowKit
set_option linter.unusedVariables false
set_option linter.unusedSimpArgs false

theorem joinP_at {cs ds : List Int} {n m : Nat} : ∀ M j, j < M → M * n ≤ cs.length → M * m ≤ ds.length → ((joinP cs ds n m M).drop (j * (n + m))).take (n + m) = (cs.drop (j * n)).take n ++ (ds.drop (j * m)).take m := by
  intro M
  induction M with
  | zero => intro j h; omega
  | succ M ih =>
    intro j h h1 h2
    rw [Nat.succ_mul] at h1 h2
    have hl := joinP_length (cs := cs) (ds := ds) (n := n) (m := m) M (by omega) (by omega)
    simp only [joinP]
    by_cases hj : j = M
    · subst hj
      rw [List.drop_append_of_le_length (by omega), List.drop_of_length_le (by omega), List.nil_append]
      refine List.take_of_length_le ?_
      simp only [List.length_append, List.length_take]
      omega
    · have h3 := mul_room (n := n + m) (show j < M by omega)
      rw [List.drop_append_of_le_length (by omega), List.take_append_of_le_length (by rw [List.length_drop]; omega)]
      exact ih j (by omega) (by omega) (by omega)
theorem join_first {cs ds : List Int} {n m M j : Nat} (h : j < M) (h1 : M * n ≤ cs.length) (h2 : M * m ≤ ds.length) : ((joinP cs ds n m M).drop (j * (n + m) + 0)).take n = (cs.drop (j * n)).take n := by
  have e := congrArg (List.take n) (joinP_at (cs := cs) (ds := ds) (n := n) (m := m) M j h h1 h2)
  have h3 := mul_room (n := n) h
  rw [List.take_take, Nat.min_eq_left (by omega), List.take_append_of_le_length (by rw [List.length_take, List.length_drop]; omega), List.take_take, Nat.min_self] at e
  rw [Nat.add_zero]
  exact e
theorem join_second {cs ds : List Int} {n m M j : Nat} (h : j < M) (h1 : M * n ≤ cs.length) (h2 : M * m ≤ ds.length) : ((joinP cs ds n m M).drop (j * (n + m) + n)).take m = (ds.drop (j * m)).take m := by
  have e := congrArg (List.drop n) (joinP_at (cs := cs) (ds := ds) (n := n) (m := m) M j h h1 h2)
  have h3 := mul_room (n := n) h
  have hn : ((cs.drop (j * n)).take n).length = n := by rw [List.length_take, List.length_drop]; omega
  have eL : ((joinP cs ds n m M).drop (j * (n + m)) |>.take (n + m)).drop n = ((joinP cs ds n m M).drop (j * (n + m) + n)).take m := by
    rw [List.drop_take, List.drop_drop, show n + m - n = m by omega]
  have eR : (((cs.drop (j * n)).take n) ++ ((ds.drop (j * m)).take m)).drop n = (ds.drop (j * m)).take m := by
    rw [List.drop_append_of_le_length (by omega), List.drop_of_length_le (by omega), List.nil_append]
  rw [eL, eR] at e
  exact e
theorem cut_first {cs ds : List Int} {n m M : Nat} (h1 : cs.length = M * n) (h2 : ds.length = M * m) : cutP (joinP cs ds n m M) (n + m) 0 n M = cs := by
  have : ∀ j, j ≤ M → cutP (joinP cs ds n m M) (n + m) 0 n j = cs.take (j * n) := by
    intro j
    induction j with
    | zero => intro _; simp [cutP]
    | succ j ih =>
      intro hj
      simp only [cutP]
      rw [ih (by omega), join_first (by omega) (by omega) (by omega), Nat.succ_mul, List.take_add]
  rw [this M (Nat.le_refl _), List.take_of_length_le (by omega)]
theorem cut_second {cs ds : List Int} {n m M : Nat} (h1 : cs.length = M * n) (h2 : ds.length = M * m) : cutP (joinP cs ds n m M) (n + m) n m M = ds := by
  have : ∀ j, j ≤ M → cutP (joinP cs ds n m M) (n + m) n m j = ds.take (j * m) := by
    intro j
    induction j with
    | zero => intro _; simp [cutP]
    | succ j ih =>
      intro hj
      simp only [cutP]
      rw [ih (by omega), join_second (by omega) (by omega) (by omega), Nat.succ_mul, List.take_add]
  rw [this M (Nat.le_refl _), List.take_of_length_le (by omega)]
theorem set_drop (ss : List Int) (k : Nat) (v : Int) : (ss.set k v).drop (k + 1) = ss.drop (k + 1) := by rw [List.drop_set_of_lt (by omega)]
theorem set_take (ss : List Int) (k : Nat) (v : Int) : (ss.set k v).take k = ss.take k := by rw [List.take_set_of_le (by omega)]
theorem set_get (ss : List Int) (k : Nat) (v : Int) (h : k < ss.length) : (ss.set k v).getD k 0 = v := by simp [List.getD, List.getElem?_set_self h]
theorem set_own (ss : List Int) (k : Nat) (h : k < ss.length) : ss.set k (ss.getD k 0) = ss := by
  apply List.ext_getElem?
  intro j
  by_cases hj : k = j
  · subst hj; rw [List.getElem?_set_self h]; simp [List.getD, List.getElem?_eq_getElem h]
  · rw [List.getElem?_set_ne hj]
theorem own_capped {w : World} {B : Nat} {e : TypeId} {A : Option Addr} {n cap : Nat} {xs : List Value} (h : w.ownsRow B e 1 (.slice A n cap) n xs) (hn : n ≤ 9223372036854775807) : Capped n cap := by
  rcases h.2 with ⟨hv, h0⟩ | ⟨g, c, cur, hv, hbg, hg, hnc, hcm, rest⟩
  · simp only [Value.slice.injEq] at hv
    obtain ⟨-, rfl, rfl⟩ := hv
    exact ⟨Nat.le_refl _, by omega⟩
  · simp only [Value.slice.injEq] at hv
    obtain ⟨-, -, rfl⟩ := hv
    exact ⟨hnc, by unfold maxLen at hcm; omega⟩
end Go.Proofs.Ytieegaojcjhfdaa

/-
  Mathematics of layer 9: tensors as pairs of lists; cut, joined one behind the other, spread.
-/
namespace Go.Proofs.Ytieegaojcjhfdaa
open Go.RowKit
set_option linter.unusedVariables false
set_option linter.unusedSimpArgs false

/-- A tensor as a pair: its shape, its cells. -/
abbrev Pr := List Int × List Int
def nilP : Pr := ([], [])
def okP (p : Pr) : Bool := rightT p.1 p.2.length

/-- The numbers of a shape at a dimension: its side, what lies behind, what lies ahead. -/
structure NumT (ss : List Int) (k x P M : Nat) : Prop where
  len : k < ss.length
  xE : ss.getD k 0 = x
  PE : prodI (ss.drop (k + 1)) = P
  ME : prodI (ss.take k) = M
  x1 : 1 ≤ x
  x2 : x ≤ 1024
  P1 : 1 ≤ P
  M1 : 1 ≤ M
  all : prodI ss = (M * (x * P) : Nat)
  most : M * (x * P) ≤ 65536
theorem num_of {ss : List Int} (h : rightS ss = true) {k : Nat} (hk : k < ss.length) : ∃ x P M, NumT ss k x P M := by
  obtain ⟨p1, p2, p3, p4⟩ := rightS_parts h
  have hx := allR_getD p3 k hk
  have hP := prodI_pos (allR_drop p3 (k + 1))
  have hM := prodI_pos (allR_take p3 k)
  obtain ⟨x, hx2⟩ : ∃ x : Nat, ss.getD k 0 = x := ⟨(ss.getD k 0).toNat, by omega⟩
  obtain ⟨P, hP2⟩ : ∃ x : Nat, prodI (ss.drop (k + 1)) = x := ⟨(prodI (ss.drop (k + 1))).toNat, by omega⟩
  obtain ⟨M, hM2⟩ : ∃ x : Nat, prodI (ss.take k) = x := ⟨(prodI (ss.take k)).toNat, by omega⟩
  have e : prodI ss = (M * (x * P) : Nat) := by rw [prodI_split ss k hk, hx2, hP2, hM2]; simp
  exact ⟨x, P, M, hk, hx2, hP2, hM2, by omega, by omega, by omega, by omega, e, by rw [e] at p4; omega⟩
theorem prodI_set {ss : List Int} {k : Nat} (hk : k < ss.length) (y : Int) : prodI (ss.set k y) = prodI (ss.take k) * (y * prodI (ss.drop (k + 1))) := by
  rw [prodI_split (ss.set k y) k (by rw [List.length_set]; exact hk), set_take, set_drop, set_get ss k y hk]
theorem allR_set {lo hi : Int} {l : List Int} (h : allR lo hi l = true) {k : Nat} {y : Int} (h1 : lo ≤ y) (h2 : y ≤ hi) : allR lo hi (l.set k y) = true := by
  unfold allR at *
  rw [List.all_eq_true] at *
  intro x hx
  rcases List.mem_or_eq_of_mem_set hx with hx | rfl
  · exact h x hx
  · exact inR_yes h1 h2
/-- A valid shape with another side. -/
theorem NumT.set {ss : List Int} {k x P M : Nat} (h : NumT ss k x P M) (hr : rightS ss = true) {y : Nat} (h1 : 1 ≤ y) (h2 : y ≤ 1024) (h3 : M * (y * P) ≤ 65536) : rightS (ss.set k (y : Int)) = true ∧ NumT (ss.set k (y : Int)) k y P M := by
  obtain ⟨p1, p2, p3, p4⟩ := rightS_parts hr
  have e : prodI (ss.set k (y : Int)) = (M * (y * P) : Nat) := by rw [prodI_set h.len, h.PE, h.ME]; simp
  refine ⟨rightS_yes (by rw [List.length_set]; exact p1) (by rw [List.length_set]; exact p2) (allR_set p3 (by omega) (by omega)) (by rw [e]; omega), ?_⟩
  exact ⟨by rw [List.length_set]; exact h.len, set_get _ _ _ h.len, by rw [set_drop]; exact h.PE, by rw [set_take]; exact h.ME, h1, h2, h.P1, h.M1, e, h3⟩
theorem NumT.set_le {ss : List Int} {k x P M : Nat} (h : NumT ss k x P M) (hr : rightS ss = true) {y : Nat} (h1 : 1 ≤ y) (h2 : y ≤ x) : rightS (ss.set k (y : Int)) = true ∧ NumT (ss.set k (y : Int)) k y P M :=
  h.set hr h1 (by have := h.x2; omega) (Nat.le_trans (Nat.mul_le_mul_left _ (Nat.mul_le_mul_right _ h2)) h.most)
theorem NumT.unique {ss : List Int} {k x P M x' P' M' : Nat} (h : NumT ss k x P M) (h' : NumT ss k x' P' M') : x = x' ∧ P = P' ∧ M = M' := by
  have := h.xE; have := h'.xE; have := h.PE; have := h'.PE; have := h.ME; have := h'.ME; omega
theorem okP_len {p : Pr} {k x P M : Nat} (h : NumT p.1 k x P M) (ho : okP p = true) : p.2.length = M * (x * P) := by
  have := (rightT_parts ho).2
  rw [h.all] at this
  omega
theorem okP_of {s c : List Int} {k x P M : Nat} (h : NumT s k x P M) (hr : rightS s = true) (hl : c.length = M * (x * P)) : okP (s, c) = true := by
  show rightT s c.length = true
  exact (rightT_yes hr (by rw [h.all, hl])).symm

/-- The error of a cut. -/
def cutE (p : Pr) (side fr tt : Int) : Int :=
  if okP p = false then 20 else if hasD p.1.length side = false then 11 else if 0 ≤ fr ∧ tt ≤ p.1.getD side.toNat 0 ∧ fr < tt then 0 else 11
def cutV (p : Pr) (side fr tt : Int) : Pr :=
  (p.1.set side.toNat (tt - fr), cutP p.2 (p.1.getD side.toNat 0 * prodI (p.1.drop (side.toNat + 1))).toNat (fr * prodI (p.1.drop (side.toNat + 1))).toNat ((tt - fr) * prodI (p.1.drop (side.toNat + 1))).toNat (prodI (p.1.take side.toNat)).toNat)
/-- A cut: the error, the part. -/
def cutR (p : Pr) (side fr tt : Int) : Int × Pr := if cutE p side fr tt = 0 then (0, cutV p side fr tt) else (cutE p side fr tt, nilP)
theorem cutR_at {p : Pr} {k x P M : Nat} (h : NumT p.1 k x P M) (ho : okP p = true) {fr tt : Nat} (h1 : fr < tt) (h2 : tt ≤ x) :
    cutR p k fr tt = (0, (p.1.set k ((tt - fr : Nat) : Int), cutP p.2 (x * P) (fr * P) ((tt - fr) * P) M)) := by
  have e : cutE p k fr tt = 0 := by
    unfold cutE
    rw [if_neg (by rw [ho]; decide), if_neg (by rw [← hasD_yes (len := p.1.length) (side := (k : Int)) (by omega) (by have := h.len; omega)]; decide), if_pos ⟨by omega, by rw [Int.toNat_natCast, h.xE]; omega, by omega⟩]
  unfold cutR
  rw [if_pos e]
  unfold cutV
  rw [Int.toNat_natCast, h.xE, h.PE, h.ME]
  have e1 : ((tt : Int) - (fr : Int)) = ((tt - fr : Nat) : Int) := by omega
  rw [e1, ← Int.natCast_mul, ← Int.natCast_mul, ← Int.natCast_mul, Int.toNat_natCast, Int.toNat_natCast, Int.toNat_natCast, Int.toNat_natCast]
theorem cut_ok_at {p : Pr} {k x P M : Nat} (h : NumT p.1 k x P M) (ho : okP p = true) {fr tt : Nat} (h1 : fr < tt) (h2 : tt ≤ x) : okP (cutR p k fr tt).2 = true := by
  rw [cutR_at h ho h1 h2]
  obtain ⟨r, n⟩ := h.set_le (rightT_parts ho).1 (y := tt - fr) (by omega) (by omega)
  refine okP_of n r ?_
  have hm : fr * P + (tt - fr) * P ≤ x * P := by
    rw [← Nat.add_mul]; exact Nat.mul_le_mul_right _ (by omega)
  rw [cutP_length hm M (by rw [okP_len h ho]; omega)]
/-- What a cut that goes well says. -/
theorem cut_good {p : Pr} {side fr tt : Int} (h : (cutR p side fr tt).1 = 0) : ∃ (k x P M f t : Nat), side = k ∧ fr = f ∧ tt = t ∧ okP p = true ∧ NumT p.1 k x P M ∧ f < t ∧ t ≤ x := by
  have e : cutE p side fr tt = 0 := by
    unfold cutR at h
    by_cases c : cutE p side fr tt = 0
    · exact c
    · rw [if_neg c] at h; exact h
  unfold cutE at e
  by_cases c1 : okP p = false
  · rw [if_pos c1] at e; omega
  rw [if_neg c1] at e
  have ho : okP p = true := by simpa using c1
  by_cases c2 : hasD p.1.length side = false
  · rw [if_pos c2] at e; omega
  rw [if_neg c2] at e
  obtain ⟨k, hk, rfl⟩ := hasD_nat (by simpa using c2)
  by_cases c3 : 0 ≤ fr ∧ tt ≤ p.1.getD (Int.toNat (k : Int)) 0 ∧ fr < tt
  · rw [Int.toNat_natCast] at c3
    obtain ⟨x, P, M, hN⟩ := num_of (rightT_parts ho).1 hk
    have hx := hN.xE
    exact ⟨k, x, P, M, fr.toNat, tt.toNat, rfl, by omega, by omega, ho, hN, by omega, by omega⟩
  · rw [if_neg c3] at e; omega

/-- The error of a join of two. -/
def joinE (p q : Pr) (side : Int) : Int :=
  if okP p = false then 20 else if okP q = false then 20 else if p.1.length ≠ q.1.length then 20 else if hasD p.1.length side = false then 11 else
  if sameL (p.1.set side.toNat (q.1.getD side.toNat 0)) q.1 = false then 20 else if rightS (p.1.set side.toNat (p.1.getD side.toNat 0 + q.1.getD side.toNat 0)) = false then 20 else 0
def joinV (p q : Pr) (side : Int) : Pr :=
  (p.1.set side.toNat (p.1.getD side.toNat 0 + q.1.getD side.toNat 0), joinP p.2 q.2 (p.1.getD side.toNat 0 * prodI (p.1.drop (side.toNat + 1))).toNat (q.1.getD side.toNat 0 * prodI (p.1.drop (side.toNat + 1))).toNat (prodI (p.1.take side.toNat)).toNat)
/-- A join of two: the error, the tensor. -/
def joinR (p q : Pr) (side : Int) : Int × Pr := if joinE p q side = 0 then (0, joinV p q side) else (joinE p q side, nilP)
theorem joinR_at {p q : Pr} {k x P M : Nat} (h : NumT p.1 k x P M) (ho : okP p = true) (hq : okP q = true) {y : Nat} (he : q.1 = p.1.set k (y : Int)) (hr : rightS (p.1.set k ((x + y : Nat) : Int)) = true) :
    joinR p q k = (0, (p.1.set k ((x + y : Nat) : Int), joinP p.2 q.2 (x * P) (y * P) M)) := by
  have hy : q.1.getD k 0 = (y : Int) := by rw [he]; exact set_get _ _ _ h.len
  have es : ((x : Int) + (y : Int)) = ((x + y : Nat) : Int) := by simp
  have e : joinE p q k = 0 := by
    unfold joinE
    rw [if_neg (by rw [ho]; decide), if_neg (by rw [hq]; decide), if_neg (by rw [he, List.length_set]; simp), if_neg (by rw [← hasD_yes (len := p.1.length) (side := (k : Int)) (by omega) (by have := h.len; omega)]; decide), Int.toNat_natCast, hy, h.xE, es,
      if_neg (by rw [he, sameL_self]; decide), if_neg (by rw [hr]; decide)]
  unfold joinR
  rw [if_pos e]
  unfold joinV
  rw [Int.toNat_natCast, hy, h.xE, h.PE, h.ME, es, ← Int.natCast_mul, ← Int.natCast_mul, Int.toNat_natCast, Int.toNat_natCast, Int.toNat_natCast]
/-- What a join that goes well says. -/
theorem join_good {p q : Pr} {side : Int} (h : (joinR p q side).1 = 0) : ∃ (k x P M y : Nat), side = k ∧ okP p = true ∧ okP q = true ∧ NumT p.1 k x P M ∧ NumT q.1 k y P M ∧ q.1 = p.1.set k (y : Int) ∧ rightS (p.1.set k ((x + y : Nat) : Int)) = true := by
  have e : joinE p q side = 0 := by
    unfold joinR at h
    by_cases c : joinE p q side = 0
    · exact c
    · rw [if_neg c] at h; exact h
  unfold joinE at e
  by_cases c1 : okP p = false
  · rw [if_pos c1] at e; omega
  rw [if_neg c1] at e
  by_cases c2 : okP q = false
  · rw [if_pos c2] at e; omega
  rw [if_neg c2] at e
  by_cases c3 : p.1.length ≠ q.1.length
  · rw [if_pos c3] at e; omega
  rw [if_neg c3] at e
  by_cases c4 : hasD p.1.length side = false
  · rw [if_pos c4] at e; omega
  rw [if_neg c4] at e
  obtain ⟨k, hk, rfl⟩ := hasD_nat (by simpa using c4)
  rw [Int.toNat_natCast] at e
  by_cases c5 : sameL (p.1.set k (q.1.getD k 0)) q.1 = false
  · rw [if_pos c5] at e; omega
  rw [if_neg c5] at e
  by_cases c6 : rightS (p.1.set k (p.1.getD k 0 + q.1.getD k 0)) = false
  · rw [if_pos c6] at e; omega
  have ho : okP p = true := by simpa using c1
  have hq : okP q = true := by simpa using c2
  obtain ⟨x, P, M, hN⟩ := num_of (rightT_parts ho).1 hk
  obtain ⟨y, P', M', hN'⟩ := num_of (rightT_parts hq).1 (show k < q.1.length by omega)
  have hs := sameL_eq (by simpa using c5 : sameL (p.1.set k (q.1.getD k 0)) q.1 = true)
  rw [hN'.xE] at hs
  have e1 := hN'.PE
  rw [← hs, set_drop, hN.PE] at e1
  have e2 := hN'.ME
  rw [← hs, set_take, hN.ME] at e2
  obtain rfl : P = P' := by omega
  obtain rfl : M = M' := by omega
  rw [hN.xE, hN'.xE] at c6
  exact ⟨k, x, P, M, y, rfl, ho, hq, hN, hN', hs.symm, by rw [show ((x : Int) + (y : Int)) = ((x + y : Nat) : Int) by simp] at c6; simpa using c6⟩
theorem NumT.join {ss : List Int} {k x P M y : Nat} (h : NumT ss k x P M) (hr : rightS (ss.set k ((x + y : Nat) : Int)) = true) : NumT (ss.set k ((x + y : Nat) : Int)) k (x + y) P M := by
  obtain ⟨x', P', M', h'⟩ := num_of hr (by rw [List.length_set]; exact h.len)
  have e1 := h'.xE
  rw [set_get _ _ _ h.len] at e1
  have e2 := h'.PE
  rw [set_drop, h.PE] at e2
  have e3 := h'.ME
  rw [set_take, h.ME] at e3
  obtain rfl : x + y = x' := by omega
  obtain rfl : P = P' := by omega
  obtain rfl : M = M' := by omega
  exact h'
theorem joinR_ok {p q : Pr} {side : Int} (h : (joinR p q side).1 = 0) : okP (joinR p q side).2 = true ∧ (joinR p q side).2.2.length = p.2.length + q.2.length ∧ (joinR p q side).2.1.length = p.1.length := by
  obtain ⟨k, x, P, M, y, rfl, ho, hq, hN, hN', he, hr⟩ := join_good h
  rw [joinR_at hN ho hq he hr]
  have l1 := okP_len hN ho
  have l2 := okP_len hN' hq
  have l3 := joinP_length (cs := p.2) (ds := q.2) (n := x * P) (m := y * P) M (by omega) (by omega)
  refine ⟨okP_of (hN.join hr) hr ?_, ?_, by rw [List.length_set]⟩
  · rw [l3, Nat.add_mul]
  · show (joinP p.2 q.2 (x * P) (y * P) M).length = _
    rw [l3, l1, l2, Nat.mul_add]
theorem joinR_nil {p q : Pr} {side : Int} (h : (joinR p q side).1 ≠ 0) : joinR p q side = ((joinR p q side).1, nilP) := by
  unfold joinR at *
  by_cases c : joinE p q side = 0
  · rw [if_pos c] at h; exact absurd rfl h
  · rw [if_neg c]
theorem cutR_nil {p : Pr} {side fr tt : Int} (h : (cutR p side fr tt).1 ≠ 0) : cutR p side fr tt = ((cutR p side fr tt).1, nilP) := by
  unfold cutR at *
  by_cases c : cutE p side fr tt = 0
  · rw [if_pos c] at h; exact absurd rfl h
  · rw [if_neg c]

/-- What joining a single tensor yields. -/
def aloneR (p : Pr) (side : Int) : Int × Pr := if okP p = false then (20, nilP) else if hasD p.1.length side = false then (11, nilP) else (0, p)
/-- A tensor joined with others, one behind the other. -/
def goJ (side : Int) (r : Int × Pr) : List Pr → Int × Pr
  | [] => r
  | q :: l => if (joinR r.2 q side).1 ≠ 0 then joinR r.2 q side else goJ side (joinR r.2 q side) l
/-- Tensors joined. -/
def mjoinR (side : Int) : List Pr → Int × Pr
  | [] => (20, nilP)
  | [p] => aloneR p side
  | p :: q :: l => goJ side (0, p) (q :: l)

/-- The first error of a join of many is what two and two say; a join that goes well is a valid tensor, and its side the sum of all. -/
theorem goJ_good {side : Int} : ∀ (l : List Pr) (p : Pr), l ≠ [] → (goJ side (0, p) l).1 = 0 → ∃ (k x P M : Nat), side = k ∧ okP p = true ∧ NumT p.1 k x P M ∧ okP (goJ side (0, p) l).2 = true ∧
      ∃ y : Nat, NumT (goJ side (0, p) l).2.1 k (x + y) P M ∧ (goJ side (0, p) l).2.1 = p.1.set k ((x + y : Nat) : Int) ∧ (l.map fun q => q.1.getD k 0).sum = y ∧ (∀ q ∈ l, okP q = true ∧ ∃ z : Nat, NumT q.1 k z P M ∧ q.1 = p.1.set k (z : Int)) ∧ (goJ side (0, p) l).2.2.length = p.2.length + (l.map fun q => q.2.length).sum := by
  intro l
  induction l with
  | nil => intro p h; exact absurd rfl h
  | cons q l ih =>
    intro p _ h
    unfold goJ at h ⊢
    by_cases c : (joinR p q side).1 ≠ 0
    · rw [if_pos c] at h; exact absurd h c
    · rw [if_neg c] at h ⊢
      have c' : (joinR p q side).1 = 0 := by simpa using c
      obtain ⟨hok, hlen, -⟩ := joinR_ok c'
      obtain ⟨k, x, P, M, y, rfl, ho, hq, hN, hN', he, hr⟩ := join_good c'
      have eJ := joinR_at hN ho hq he hr
      rw [eJ] at h hok hlen ⊢
      have hNJ := hN.join hr
      cases l with
      | nil =>
        refine ⟨k, x, P, M, rfl, ho, hN, hok, y, hNJ, rfl, ?_, ?_, ?_⟩
        · rw [List.map_cons, List.map_nil, List.sum_cons, List.sum_nil, hN'.xE, Int.add_zero]
        · intro q' hq'
          rw [List.mem_singleton] at hq'
          subst hq'
          exact ⟨hq, y, hN', he⟩
        · simp only [goJ]
          simpa using hlen
      | cons q2 l =>
        obtain ⟨k', x', P', M', hk', -, hN2, hok2, y2, hNF, heF, hsum, hall, hlenF⟩ := ih (p.1.set k ((x + y : Nat) : Int), joinP p.2 q.2 (x * P) (y * P) M) (by simp) h
        obtain rfl : k = k' := by omega
        obtain ⟨rfl, rfl, rfl⟩ := hNJ.unique hN2
        refine ⟨k, x, P, M, rfl, ho, hN, hok2, y + y2, ?_, ?_, ?_, ?_, ?_⟩
        · rw [show x + (y + y2) = x + y + y2 by omega]; exact hNF
        · rw [heF, show x + (y + y2) = x + y + y2 by omega, List.set_set]
        · rw [List.map_cons, List.sum_cons, hsum, hN'.xE]; omega
        · intro q' hq'
          rcases List.mem_cons.1 hq' with rfl | hq'
          · exact ⟨hq, y, hN', he⟩
          · obtain ⟨o1, z, nz, ez⟩ := hall q' hq'
            refine ⟨o1, z, nz, ?_⟩
            rw [ez, List.set_set]
        · rw [hlenF]
          simp only [] at hlen
          rw [hlen]
          simp only [List.map_cons, List.sum_cons]
          omega
theorem mjoin_good {side : Int} {l : List Pr} (h : (mjoinR side l).1 = 0) : ∃ (k x P M : Nat), side = k ∧ NumT (mjoinR side l).2.1 k x P M ∧ okP (mjoinR side l).2 = true ∧ l ≠ [] ∧
      (l.map fun q => q.1.getD k 0).sum = x ∧ (∀ q ∈ l, okP q = true ∧ ∃ z : Nat, NumT q.1 k z P M ∧ q.1 = (mjoinR side l).2.1.set k (z : Int)) := by
  match l, h with
  | [], h => simp [mjoinR] at h
  | [p], h =>
    change (aloneR p side).1 = 0 at h
    rw [show mjoinR side [p] = aloneR p side from rfl]
    unfold aloneR at h ⊢
    by_cases c1 : okP p = false
    · rw [if_pos c1] at h; simp at h
    rw [if_neg c1] at h ⊢
    by_cases c2 : hasD p.1.length side = false
    · rw [if_pos c2] at h; simp at h
    rw [if_neg c2] at h ⊢
    have ho : okP p = true := by simpa using c1
    obtain ⟨k, hk, rfl⟩ := hasD_nat (by simpa using c2)
    obtain ⟨x, P, M, hN⟩ := num_of (rightT_parts ho).1 hk
    refine ⟨k, x, P, M, rfl, hN, ho, by simp, by rw [List.map_cons, List.map_nil, List.sum_cons, List.sum_nil, hN.xE, Int.add_zero], ?_⟩
    intro q hq
    rw [List.mem_singleton] at hq
    subst hq
    refine ⟨ho, x, hN, ?_⟩
    show q.1 = q.1.set k (x : Int)
    rw [← hN.xE, set_own _ _ hN.len]
  | p :: q :: l, h =>
    change (goJ side (0, p) (q :: l)).1 = 0 at h
    rw [show mjoinR side (p :: q :: l) = goJ side (0, p) (q :: l) from rfl]
    obtain ⟨k, x, P, M, rfl, ho, hN, hok, y, hNF, heF, hsum, hall, -⟩ := goJ_good (q :: l) p (by simp) h
    refine ⟨k, x + y, P, M, rfl, hNF, hok, by simp, ?_, ?_⟩
    · rw [List.map_cons, List.sum_cons, hsum, hN.xE]; omega
    · intro q' hq'
      rcases List.mem_cons.1 hq' with rfl | hq'
      · refine ⟨ho, x, hN, ?_⟩
        rw [heF, List.set_set, ← hN.xE, set_own _ _ hN.len]
      · obtain ⟨o1, z, nz, ez⟩ := hall q' hq'
        exact ⟨o1, z, nz, by rw [heF, List.set_set]; exact ez⟩

/-- A part of a list of blocks, block by block. -/
theorem cutP_at {cs : List Int} {n lo wd : Nat} (h : lo + wd ≤ n) : ∀ M j, j < M → M * n ≤ cs.length → ((cutP cs n lo wd M).drop (j * wd)).take wd = (cs.drop (j * n + lo)).take wd := by
  intro M
  induction M with
  | zero => intro j hj; omega
  | succ M ih =>
    intro j hj hM
    rw [Nat.succ_mul] at hM
    have hl := cutP_length h M (by omega : M * n ≤ cs.length)
    simp only [cutP]
    by_cases e : j = M
    · subst e
      rw [List.drop_append_of_le_length (by omega), List.drop_of_length_le (by omega), List.nil_append]
      exact List.take_of_length_le (by rw [List.length_take]; omega)
    · have h3 := mul_room (n := wd) (show j < M by omega)
      rw [List.drop_append_of_le_length (by omega), List.take_append_of_le_length (by rw [List.length_drop]; omega)]
      exact ih j (by omega) (by omega)
/-- Two parts that lie side by side, joined, are one part. -/
theorem join_cuts {cs : List Int} {n lo wd wd' M : Nat} (h : lo + wd + wd' ≤ n) (hM : M * n ≤ cs.length) : joinP (cutP cs n lo wd M) (cutP cs n (lo + wd) wd' M) wd wd' M = cutP cs n lo (wd + wd') M := by
  have : ∀ j, j ≤ M → joinP (cutP cs n lo wd M) (cutP cs n (lo + wd) wd' M) wd wd' j = cutP cs n lo (wd + wd') j := by
    intro j
    induction j with
    | zero => intro _; rfl
    | succ j ih =>
      intro hj
      simp only [joinP, cutP]
      rw [ih (by omega), cutP_at (by omega) M j (by omega) hM, cutP_at (by omega) M j (by omega) hM, ← Nat.add_assoc, show cs.drop (j * n + lo + wd) = (cs.drop (j * n + lo)).drop wd by rw [List.drop_drop], ← List.take_add]
  exact this M (Nat.le_refl _)
theorem cut_all {cs : List Int} {n M : Nat} (h : cs.length = M * n) : cutP cs n 0 n M = cs := by
  have : ∀ j, j ≤ M → cutP cs n 0 n j = cs.take (j * n) := by
    intro j
    induction j with
    | zero => intro _; simp [cutP]
    | succ j ih =>
      intro hj
      simp only [cutP]
      rw [ih (by omega), Nat.add_zero, Nat.succ_mul, List.take_add]
  rw [this M (Nat.le_refl _), List.take_of_length_le (by omega)]
theorem cutR_all {p : Pr} {k x P M : Nat} (h : NumT p.1 k x P M) (ho : okP p = true) : cutR p k 0 x = (0, p) := by
  have e := cutR_at h ho (fr := 0) (tt := x) (by have := h.x1; omega) (Nat.le_refl _)
  rw [Nat.sub_zero, Nat.zero_mul, cut_all (okP_len h ho), ← h.xE, set_own _ _ h.len] at e
  rw [← h.xE]
  exact e

/-- The parts of g. -/
def partsR (g : Pr) (k : Nat) (fr : Int) : List Pr → List Pr
  | [] => []
  | p :: l => (cutR g k fr (fr + p.1.getD k 0)).2 :: partsR g k (fr + p.1.getD k 0) l
theorem partsR_length (g : Pr) (k : Nat) : ∀ (l : List Pr) (fr : Int), (partsR g k fr l).length = l.length := by
  intro l
  induction l with
  | nil => intro fr; rfl
  | cons p l ih => intro fr; simp [partsR, ih]
theorem partsR_append (g : Pr) (k : Nat) : ∀ (l m : List Pr) (fr : Int), partsR g k fr (l ++ m) = partsR g k fr l ++ partsR g k (fr + (l.map fun q => q.1.getD k 0).sum) m := by
  intro l
  induction l with
  | nil => intro m fr; simp [partsR]
  | cons p l ih => intro m fr; simp [partsR, ih, Int.add_assoc]
/-- What goes back of a join: the error, the parts. -/
def jbackR (side : Int) (g : Pr) (l : List Pr) : Int × List Pr :=
  if (mjoinR side l).1 ≠ 0 then ((mjoinR side l).1, []) else if (okP g && sameL g.1 (mjoinR side l).2.1) = false then (20, []) else (0, partsR g side.toNat 0 l)

theorem goJ_parts {g : Pr} {k x P M : Nat} (hN : NumT g.1 k x P M) (hg : okP g = true) : ∀ (l : List Pr) (f : Nat), 1 ≤ f → (∀ q ∈ l, ∃ z : Nat, NumT q.1 k z P M) → (f : Int) + (l.map fun q => q.1.getD k 0).sum = x → goJ k (0, (cutR g k 0 f).2) (partsR g k f l) = (0, g) := by
  intro l
  induction l with
  | nil =>
    intro f h1 _ hs
    simp only [List.map_nil, List.sum_nil, Int.add_zero] at hs
    obtain rfl : f = x := by omega
    unfold partsR goJ
    rw [cutR_all hN hg]
  | cons q l ih =>
    intro f h1 hall hs
    obtain ⟨z, hz⟩ := hall q (by simp)
    have hz1 := hz.x1
    have hrest : 0 ≤ (l.map fun q => q.1.getD k 0).sum := by
      have : ∀ (l : List Pr), (∀ q ∈ l, ∃ z : Nat, NumT q.1 k z P M) → 0 ≤ (l.map fun q => q.1.getD k 0).sum := by
        intro l
        induction l with
        | nil => intro _; simp
        | cons q l ih =>
          intro h
          obtain ⟨z, hz⟩ := h q (by simp)
          have := ih (fun q' hq' => h q' (List.mem_cons_of_mem _ hq'))
          rw [List.map_cons, List.sum_cons, hz.xE]
          omega
      exact this l (fun q' hq' => hall q' (List.mem_cons_of_mem _ hq'))
    rw [List.map_cons, List.sum_cons, hz.xE] at hs
    have hfz : f + z ≤ x := by omega
    unfold partsR goJ
    rw [hz.xE, show (f : Int) + (z : Int) = ((f + z : Nat) : Int) by simp]
    have eA := cutR_at hN hg (fr := 0) (tt := f) (by omega) (by omega)
    have eB := cutR_at hN hg (fr := f) (tt := f + z) (by omega) (by omega)
    have eC := cutR_at hN hg (fr := 0) (tt := f + z) (by omega) (by omega)
    have oA := cut_ok_at hN hg (fr := 0) (tt := f) (by omega) (by omega)
    have oB := cut_ok_at hN hg (fr := f) (tt := f + z) (by omega) (by omega)
    have e0 : ((0 : Nat) : Int) = 0 := rfl
    rw [Nat.sub_zero, Nat.zero_mul, e0] at eA eC
    rw [e0] at oA
    rw [Nat.add_sub_cancel_left] at eB
    have hNA := (hN.set_le (rightT_parts hg).1 (y := f) h1 (by omega)).2
    have hrC := (hN.set_le (rightT_parts hg).1 (y := f + z) (by omega) hfz).1
    have hJ := joinR_at (p := (cutR g k 0 f).2) (q := (cutR g k f ((f + z : Nat) : Int)).2) (x := f) (P := P) (M := M) (k := k) (y := z) (by rw [eA]; exact hNA) oA oB (by rw [eA, eB, List.set_set]) (by rw [eA, List.set_set]; exact hrC)
    have hJ2 : joinR (cutR g k 0 f).2 (cutR g k f ((f + z : Nat) : Int)).2 k = cutR g k 0 ((f + z : Nat) : Int) := by
      rw [hJ, eC, eA, eB]
      have hj := join_cuts (cs := g.2) (n := x * P) (lo := 0) (wd := f * P) (wd' := z * P) (M := M) (by rw [Nat.zero_add, ← Nat.add_mul]; exact Nat.mul_le_mul_right _ hfz) (by rw [okP_len hN hg]; omega)
      rw [Nat.zero_add, ← Nat.add_mul] at hj
      simp only [List.set_set]
      rw [hj]
    rw [if_neg (by rw [hJ2, eC]; simp), hJ2, show cutR g k 0 ((f + z : Nat) : Int) = (0, (cutR g k 0 ((f + z : Nat) : Int)).2) by rw [eC]]
    exact ih (f + z) (by omega) (fun q' hq' => hall q' (List.mem_cons_of_mem _ hq')) (by omega)
/-- The parts, joined, are g again; each has the shape of its tensor. -/
theorem parts_join {side : Int} {l : List Pr} {g : Pr} (h : (mjoinR side l).1 = 0) (hg : okP g = true) (he : g.1 = (mjoinR side l).2.1) : mjoinR side (partsR g side.toNat 0 l) = (0, g) := by
  obtain ⟨k, x, P, M, rfl, hN, -, hne, hsum, hall⟩ := mjoin_good h
  rw [← he] at hN
  rw [Int.toNat_natCast]
  match l, hne with
  | [p], _ =>
    simp only [List.map_cons, List.map_nil, List.sum_cons, List.sum_nil, Int.add_zero] at hsum
    unfold partsR partsR
    rw [Int.zero_add, hsum, cutR_all hN hg]
    show aloneR g k = _
    unfold aloneR
    rw [if_neg (by rw [hg]; decide), if_neg (by rw [← hasD_yes (len := g.1.length) (side := (k : Int)) (by omega) (by have := hN.len; omega)]; decide)]
  | p :: q :: l, _ =>
    obtain ⟨-, z, hz, -⟩ := hall p (by simp)
    have hz1 := hz.x1
    rw [List.map_cons, List.sum_cons, hz.xE] at hsum
    have e := goJ_parts hN hg (q :: l) z hz1 (fun q' hq' => by obtain ⟨-, z', hz', -⟩ := hall q' (List.mem_cons_of_mem _ hq'); exact ⟨z', hz'⟩) hsum
    have er : partsR g k 0 (p :: q :: l) = (cutR g k 0 z).2 :: (cutR g k z ((z : Int) + q.1.getD k 0)).2 :: partsR g k ((z : Int) + q.1.getD k 0) l := by
      simp only [partsR]
      rw [hz.xE, Int.zero_add]
    rw [er]
    unfold mjoinR
    unfold partsR at e
    exact e
theorem parts_shape {side : Int} {l : List Pr} {g : Pr} (h : (mjoinR side l).1 = 0) (hg : okP g = true) (he : g.1 = (mjoinR side l).2.1) : (partsR g side.toNat 0 l).map Prod.fst = l.map Prod.fst := by
  obtain ⟨k, x, P, M, rfl, hN, -, hne, hsum, hall⟩ := mjoin_good h
  rw [← he] at hN hall
  rw [Int.toNat_natCast]
  clear h he hne
  have : ∀ (l : List Pr) (f : Nat), (∀ q ∈ l, okP q = true ∧ ∃ z : Nat, NumT q.1 k z P M ∧ q.1 = g.1.set k (z : Int)) → (f : Int) + (l.map fun q => q.1.getD k 0).sum = x → (partsR g k f l).map Prod.fst = l.map Prod.fst := by
    intro l
    induction l with
    | nil => intro f _ _; rfl
    | cons q l ih =>
      intro f hall hs
      obtain ⟨-, z, hz, ez⟩ := hall q (by simp)
      have hz1 := hz.x1
      have hrest : ∀ (l : List Pr), (∀ q ∈ l, okP q = true ∧ ∃ z : Nat, NumT q.1 k z P M ∧ q.1 = g.1.set k (z : Int)) → 0 ≤ (l.map fun q => q.1.getD k 0).sum := by
        intro l
        induction l with
        | nil => intro _; simp
        | cons q l ih =>
          intro h
          obtain ⟨-, z, hz, -⟩ := h q (by simp)
          have := ih (fun q' hq' => h q' (List.mem_cons_of_mem _ hq'))
          rw [List.map_cons, List.sum_cons, hz.xE]
          omega
      have hr := hrest l (fun q' hq' => hall q' (List.mem_cons_of_mem _ hq'))
      rw [List.map_cons, List.sum_cons, hz.xE] at hs
      simp only [partsR, List.map_cons]
      rw [hz.xE, show (f : Int) + (z : Int) = ((f + z : Nat) : Int) by simp, ih (f + z) (fun q' hq' => hall q' (List.mem_cons_of_mem _ hq')) (by omega), cutR_at hN hg (by omega) (by omega), Nat.add_sub_cancel_left, ← ez]
  have e := this l 0 hall (by omega)
  exact e

/-- A part's cells in their place, block by block, and noughts in all others. -/
def spreadP (g : List Int) (lo wd hi : Nat) : Nat → List Int
  | 0 => []
  | j + 1 => spreadP g lo wd hi j ++ (List.replicate lo 0 ++ (g.drop (j * wd)).take wd ++ List.replicate hi 0)
theorem spreadP_length {g : List Int} {lo wd hi : Nat} : ∀ M, M * wd ≤ g.length → (spreadP g lo wd hi M).length = M * (lo + wd + hi) := by
  intro M
  induction M with
  | zero => intro _; simp [spreadP]
  | succ M ih =>
    intro h
    rw [Nat.succ_mul] at h
    simp only [spreadP, List.length_append, List.length_replicate, List.length_take, List.length_drop]
    rw [ih (by omega), Nat.succ_mul]
    omega
theorem spreadP_fits {g : List Int} (h : Fits g) (lo wd hi : Nat) : ∀ M, Fits (spreadP g lo wd hi M) := by
  intro M
  induction M with
  | zero => intro q hq; simp [spreadP] at hq
  | succ M ih =>
    intro q hq
    simp only [spreadP, List.mem_append] at hq
    rcases hq with hq | (hq | hq) | hq
    · exact ih q hq
    · obtain ⟨-, rfl⟩ := List.mem_replicate.1 hq; omega
    · exact h q (List.mem_of_mem_drop (List.mem_of_mem_take hq))
    · obtain ⟨-, rfl⟩ := List.mem_replicate.1 hq; omega
/-- The cell in block a at place c. -/
theorem spreadP_get {g : List Int} {lo wd hi : Nat} : ∀ M a c, a < M → c < lo + wd + hi → M * wd ≤ g.length → (spreadP g lo wd hi M).getD (a * (lo + wd + hi) + c) 0 = if c < lo then 0 else if c < lo + wd then g.getD (a * wd + (c - lo)) 0 else 0 := by
  intro M
  induction M with
  | zero => intro a c ha; omega
  | succ M ih =>
    intro a c ha hc hM
    rw [Nat.succ_mul] at hM
    have hl := spreadP_length (g := g) (lo := lo) (wd := wd) (hi := hi) M (by omega)
    simp only [spreadP, List.getD]
    by_cases e : a = M
    · subst e
      rw [List.getElem?_append_right (by omega), hl, Nat.add_sub_cancel_left]
      by_cases c1 : c < lo
      · rw [if_pos c1, List.append_assoc, List.getElem?_append_left (by rw [List.length_replicate]; exact c1), List.getElem?_replicate, if_pos c1]
        rfl
      · rw [if_neg c1]
        by_cases c2 : c < lo + wd
        · rw [if_pos c2, List.append_assoc, List.getElem?_append_right (by rw [List.length_replicate]; omega), List.length_replicate, List.getElem?_append_left (by rw [List.length_take, List.length_drop]; omega), List.getElem?_take, if_pos (by omega), List.getElem?_drop]
        · rw [if_neg c2, List.getElem?_append_right (by rw [List.length_append, List.length_replicate, List.length_take, List.length_drop]; omega), List.getElem?_replicate]
          split <;> rfl
    · have h3 := mul_room (n := lo + wd + hi) (show a < M by omega)
      rw [List.getElem?_append_left (by omega)]
      exact ih a c (by omega) hc (by omega)
theorem drop_zeros (n a m : Nat) (h : a + m ≤ n) : ((List.replicate n (0 : Int)).drop a).take m = List.replicate m 0 := by
  rw [List.drop_replicate, List.take_replicate, Nat.min_eq_left (by omega)]
theorem cut_zeros {N n lo wd : Nat} (h : lo + wd ≤ n) : ∀ M, M * n ≤ N → cutP (List.replicate N (0 : Int)) n lo wd M = List.replicate (M * wd) 0 := by
  intro M
  induction M with
  | zero => intro _; simp [cutP]
  | succ M ih =>
    intro hM
    rw [Nat.succ_mul] at hM
    simp only [cutP]
    rw [ih (by omega), drop_zeros _ _ _ (by omega), Nat.succ_mul, List.replicate_append_replicate]
/-- Noughts ahead of g. -/
theorem join_ahead {g : List Int} {lo wd M : Nat} (h : M * wd ≤ g.length) : joinP (List.replicate (M * lo) 0) g lo wd M = spreadP g lo wd 0 M := by
  have : ∀ j, j ≤ M → joinP (List.replicate (M * lo) 0) g lo wd j = spreadP g lo wd 0 j := by
    intro j
    induction j with
    | zero => intro _; rfl
    | succ j ih =>
      intro hj
      simp only [joinP, spreadP]
      rw [ih (by omega), drop_zeros _ _ _ (mul_room (by omega))]
      simp
  exact this M (Nat.le_refl _)
theorem spread_at {g : List Int} {lo wd : Nat} : ∀ M j, j < M → M * wd ≤ g.length → ((spreadP g lo wd 0 M).drop (j * (lo + wd))).take (lo + wd) = List.replicate lo 0 ++ (g.drop (j * wd)).take wd := by
  intro M
  induction M with
  | zero => intro j h; omega
  | succ M ih =>
    intro j h h1
    rw [Nat.succ_mul] at h1
    have hl := spreadP_length (g := g) (lo := lo) (wd := wd) (hi := 0) M (by omega)
    rw [Nat.add_zero] at hl
    simp only [spreadP, List.replicate_zero, List.append_nil]
    by_cases hj : j = M
    · subst hj
      rw [List.drop_append_of_le_length (by omega), List.drop_of_length_le (by omega), List.nil_append]
      refine List.take_of_length_le ?_
      simp only [List.length_append, List.length_take, List.length_replicate]
      omega
    · have h3 := mul_room (n := lo + wd) (show j < M by omega)
      rw [List.drop_append_of_le_length (by omega), List.take_append_of_le_length (by rw [List.length_drop]; omega)]
      exact ih j (by omega) (by omega)
/-- Noughts behind. -/
theorem join_behind {g : List Int} {lo wd hi M : Nat} (h : M * wd ≤ g.length) : joinP (spreadP g lo wd 0 M) (List.replicate (M * hi) 0) (lo + wd) hi M = spreadP g lo wd hi M := by
  have : ∀ j, j ≤ M → joinP (spreadP g lo wd 0 M) (List.replicate (M * hi) 0) (lo + wd) hi j = spreadP g lo wd hi j := by
    intro j
    induction j with
    | zero => intro _; rfl
    | succ j ih =>
      intro hj
      simp only [joinP]
      rw [ih (by omega), drop_zeros _ _ _ (mul_room (by omega)), spread_at M j (by omega) h]
      simp only [spreadP]
  exact this M (Nat.le_refl _)
theorem spread_none {g : List Int} {wd M : Nat} (h : g.length = M * wd) : spreadP g 0 wd 0 M = g := by
  have : ∀ j, j ≤ M → spreadP g 0 wd 0 j = g.take (j * wd) := by
    intro j
    induction j with
    | zero => intro _; simp [spreadP]
    | succ j ih =>
      intro hj
      simp only [spreadP, List.replicate_zero, List.append_nil, List.nil_append]
      rw [ih (by omega), Nat.succ_mul, List.take_add]
  rw [this M (Nat.le_refl _), List.take_of_length_le (by omega)]

/-- The tensors that a cut's gradient is joined of. -/
def cbackL (x g : Pr) (side fr tt : Int) : List Pr :=
  (if 0 < fr then [(cutR (x.1, List.replicate (prodI x.1).toNat 0) side 0 fr).2] else []) ++ [g] ++ (if tt < x.1.getD side.toNat 0 then [(cutR (x.1, List.replicate (prodI x.1).toNat 0) side tt (x.1.getD side.toNat 0)).2] else [])
/-- What goes back of a cut: the error, the tensor. -/
def cbackR (x g : Pr) (side fr tt : Int) : Int × Pr :=
  if (cutR x side fr tt).1 ≠ 0 then ((cutR x side fr tt).1, nilP) else if (okP g && sameL g.1 (cutR x side fr tt).2.1) = false then (20, nilP) else mjoinR side (cbackL x g side fr tt)
theorem zeros_ok {s : List Int} {k x P M : Nat} (h : NumT s k x P M) (hr : rightS s = true) : okP (s, List.replicate (prodI s).toNat 0) = true :=
  okP_of h hr (by rw [List.length_replicate, h.all, Int.toNat_natCast])
theorem alone_ok {p : Pr} {k : Nat} (h : okP p = true) (hk : k < p.1.length) : aloneR p k = (0, p) := by
  unfold aloneR
  rw [if_neg (by rw [h]; decide), if_neg (by rw [← hasD_yes (len := p.1.length) (side := (k : Int)) (by omega) (by omega)]; decide)]
/-- A cut's gradient: g in its place, and noughts in all others. -/
theorem cback_ok {x g : Pr} {k n P M f t : Nat} (hN : NumT x.1 k n P M) (hx : okP x = true) (hft : f < t) (ht : t ≤ n) (hg : okP g = true) (he : g.1 = x.1.set k ((t - f : Nat) : Int)) :
    mjoinR k (cbackL x g k f t) = (0, (x.1, spreadP g.2 (f * P) ((t - f) * P) ((n - t) * P) M)) := by
  have hr := (rightT_parts hx).1
  obtain ⟨hrg, hNg⟩ := hN.set_le hr (y := t - f) (by omega) (by omega)
  have hNg' : NumT g.1 k (t - f) P M := by rw [he]; exact hNg
  have hgl := okP_len hNg' hg
  have hz := zeros_ok hN hr
  have hpn : (prodI x.1).toNat = M * (n * P) := by rw [hN.all, Int.toNat_natCast]
  obtain ⟨Z, hZ⟩ : ∃ Z : Pr, (x.1, List.replicate (prodI x.1).toNat (0 : Int)) = Z := ⟨_, rfl⟩
  have hZ1 : Z.1 = x.1 := by rw [← hZ]
  have hZ2 : Z.2 = List.replicate (M * (n * P)) 0 := by rw [← hZ, ← hpn]
  unfold cbackL
  rw [Int.toNat_natCast, hN.xE, hZ]
  rw [hZ] at hz
  have hNZ : NumT Z.1 k n P M := by rw [hZ1]; exact hN
  have hcz : ∀ lo w, lo + w ≤ n → cutP (List.replicate (M * (n * P)) (0 : Int)) (n * P) (lo * P) (w * P) M = List.replicate (M * (w * P)) 0 := fun lo w h => cut_zeros (by rw [← Nat.add_mul]; exact Nat.mul_le_mul_right _ h) M (Nat.le_refl _)
  have hsz : n - t = 0 → spreadP g.2 (f * P) ((t - f) * P) ((n - t) * P) M = spreadP g.2 (f * P) ((t - f) * P) 0 M := fun h => by rw [h, Nat.zero_mul]
  by_cases c1 : 0 < f
  · have eA := cutR_at hNZ hz (fr := 0) (tt := f) c1 (by omega)
    have oA := cut_ok_at hNZ hz (fr := 0) (tt := f) c1 (by omega)
    have e0 : ((0 : Nat) : Int) = 0 := rfl
    rw [e0, Nat.sub_zero] at eA
    rw [hZ1, hZ2, hcz 0 f (by omega)] at eA
    rw [e0, eA] at oA
    have hNA : NumT (x.1.set k (f : Int)) k f P M := (hN.set_le hr (y := f) (by omega) (by omega)).2
    have hrAB : rightS ((x.1.set k (f : Int)).set k ((f + (t - f) : Nat) : Int)) = true := by rw [List.set_set]; exact (hN.set_le hr (y := f + (t - f)) (by omega) (by omega)).1
    have eAB := joinR_at (p := (x.1.set k (f : Int), List.replicate (M * (f * P)) 0)) (q := g) (y := t - f) hNA oA hg (by rw [he, List.set_set]) hrAB
    rw [join_ahead (by omega), List.set_set, show f + (t - f) = t by omega] at eAB
    rw [if_pos (by omega : (0 : Int) < (f : Int)), eA]
    by_cases c2 : t < n
    · have eC := cutR_at hNZ hz (fr := t) (tt := n) c2 (Nat.le_refl _)
      have oC := cut_ok_at hNZ hz (fr := t) (tt := n) c2 (Nat.le_refl _)
      rw [hZ1, hZ2, hcz t (n - t) (by omega)] at eC
      rw [eC] at oC
      rw [if_pos (by omega : (t : Int) < (n : Int)), eC]
      have hNAB : NumT (x.1.set k (t : Int)) k t P M := (hN.set_le hr (y := t) (by omega) (by omega)).2
      have hrAB' := (hN.set_le hr (y := t) (by omega) (by omega)).1
      have oAB : okP (x.1.set k (t : Int), spreadP g.2 (f * P) ((t - f) * P) 0 M) = true := okP_of hNAB hrAB' (by rw [spreadP_length M (by omega), Nat.add_zero, ← Nat.add_mul, show f + (t - f) = t by omega])
      have eF := joinR_at (p := (x.1.set k (t : Int), spreadP g.2 (f * P) ((t - f) * P) 0 M)) (q := (x.1.set k ((n - t : Nat) : Int), List.replicate (M * ((n - t) * P)) 0)) (y := n - t) hNAB oAB oC (by rw [List.set_set]) (by rw [List.set_set, show t + (n - t) = n by omega, ← hN.xE, set_own _ _ hN.len]; exact hr)
      have ej := join_behind (g := g.2) (lo := f * P) (wd := (t - f) * P) (hi := (n - t) * P) (M := M) (by omega)
      rw [← Nat.add_mul, show f + (t - f) = t by omega] at ej
      rw [ej, List.set_set, show t + (n - t) = n by omega, ← hN.xE, set_own _ _ hN.len] at eF
      show goJ k (0, (x.1.set k (f : Int), List.replicate (M * (f * P)) 0)) [g, (x.1.set k ((n - t : Nat) : Int), List.replicate (M * ((n - t) * P)) 0)] = _
      unfold goJ
      simp only [eAB]
      unfold goJ
      simp only [eF]
      simp [goJ]
    · rw [if_neg (by omega : ¬ (t : Int) < (n : Int)), List.append_nil]
      show goJ k (0, (x.1.set k (f : Int), List.replicate (M * (f * P)) 0)) [g] = _
      unfold goJ
      simp only [eAB]
      obtain rfl : t = n := by omega
      rw [hsz (by omega), ← hN.xE, set_own _ _ hN.len]
      simp [goJ]
  · obtain rfl : f = 0 := by omega
    rw [if_neg (by omega : ¬ (0 : Int) < ((0 : Nat) : Int)), List.nil_append, Nat.zero_mul]
    rw [Nat.sub_zero] at he hgl hNg' ⊢
    by_cases c2 : t < n
    · have eC := cutR_at hNZ hz (fr := t) (tt := n) c2 (Nat.le_refl _)
      have oC := cut_ok_at hNZ hz (fr := t) (tt := n) c2 (Nat.le_refl _)
      rw [hZ1, hZ2, hcz t (n - t) (by omega)] at eC
      rw [eC] at oC
      rw [if_pos (by omega : (t : Int) < (n : Int)), eC]
      have eF := joinR_at (p := g) (q := (x.1.set k ((n - t : Nat) : Int), List.replicate (M * ((n - t) * P)) 0)) (y := n - t) hNg' hg oC (by rw [he, List.set_set]) (by rw [he, List.set_set, show t + (n - t) = n by omega, ← hN.xE, set_own _ _ hN.len]; exact hr)
      have ej := join_behind (g := g.2) (lo := 0) (wd := t * P) (hi := (n - t) * P) (M := M) (by omega)
      rw [spread_none hgl, Nat.zero_add] at ej
      rw [ej, he, List.set_set, show t + (n - t) = n by omega, ← hN.xE, set_own _ _ hN.len] at eF
      show goJ k (0, g) [(x.1.set k ((n - t : Nat) : Int), List.replicate (M * ((n - t) * P)) 0)] = _
      unfold goJ
      simp only [eF]
      simp [goJ]
    · rw [if_neg (by omega : ¬ (t : Int) < (n : Int)), List.append_nil]
      obtain rfl : t = n := by omega
      have e := alone_ok hg (by rw [he, List.length_set]; exact hN.len)
      show aloneR g k = _
      rw [e, Nat.sub_self, Nat.zero_mul, spread_none hgl]
      rw [← hN.xE, set_own _ _ hN.len] at he
      rw [← he]
end Go.Proofs.Ytieegaojcjhfdaa

/-
  A tensor as a value: in memory, and as (a part of) an argument.
-/
namespace Go.Proofs.Ytieegaojcjhfdaa
open Go.RowKit Go.ChangeShapes Go.WideShapes Go.Deep
set_option linter.unusedVariables false
set_option linter.unusedSimpArgs false

/-- A tensor as a value: where its rows lie, and what they hold. -/
structure TV where
  sa : Option Addr
  sl : Nat
  sc : Nat
  ss : List Int
  ca : Option Addr
  cl : Nat
  cc : Nat
  cs : List Int
def TV.s (t : TV) : Value := .slice t.sa t.sl t.sc
def TV.c (t : TV) : Value := .slice t.ca t.cl t.cc
def TV.At (t : TV) (w : World) : Prop := IntsAt w t.sa t.sl t.ss ∧ IntsAt w t.ca t.cl t.cs ∧ t.sl ≤ 17592186044416 ∧ t.cl ≤ 17592186044416
theorem TV.At.kept {t : TV} {w w' : World} (h : t.At w) (hb : Below w.heap.size w w') : t.At w' := ⟨h.1.kept hb, h.2.1.kept hb, h.2.2⟩
instance : Inhabited TV := ⟨⟨none, 0, 0, [], none, 0, 0, []⟩⟩

/-- Its cells lie within their row. -/
def TV.Cap (t : TV) : Prop := t.cl ≤ t.cc ∧ t.cc ≤ 9223372036854775807

section
variable {H : Type} {enc : TypeId × Value → H} {P : Program} {w : World} {base : Nat} {spare : Nat → Bool} {held : Bool}

theorem field_ints_sized {t e : TypeId} {fuel : Nat} {c : Value} {x : DataW H × List MemPlace} (ht : P.underlying t = some (.slice e)) (he : P.underlying e = some (.int .i64)) (hc : P.cellsOf e = 1) (hb : P.bytesOf e = 8)
    (h : DataW.trod enc P w base spare held fuel t [c] = some x) (hw : ∀ n ∈ x.1.weights P t, n ≤ reachBytes) : ∃ a len cap zs, c = .slice a len cap ∧ IntsAt w a len zs ∧ len ≤ 17592186044416 ∧ len ≤ cap ∧ cap ≤ 9223372036854775807 := by
  rcases open_ints ht he hc h with ⟨hcs, -⟩ | ⟨a, len, cap, zs, hcs, -, hl, hm, hz, hx, hcell, hwz⟩
  · obtain rfl := (List.cons.inj hcs).1
    exact ⟨_, _, _, _, rfl, IntsAt.nil _ _, by omega, by omega, by omega⟩
  · obtain rfl := (List.cons.inj hcs).1
    have hz' : zs.length = cap ∨ zs.length = len := by
      split at hz
      · exact .inl hz
      · exact .inr hz
    have hlz : len ≤ zs.length := by omega
    have hwt : zs.length * 8 ≤ reachBytes := by
      have := hw (zs.length * 8) (by
        rw [hx]
        simp only [DataW.weights, ht, List.mem_cons]
        refine .inl ?_
        rw [hb]
        simp [lits]
        omega)
      exact this
    have hr : reachBytes = 140737488351232 := by decide
    rw [hr] at hwt
    refine ⟨_, _, cap, zs.take len, rfl, ?_, by omega, hl, by unfold maxLen at hm; omega⟩
    rcases hz' with hs | hs
    · exact IntsAt.of_row hl hm hs hcell hwz
    · exact IntsAt.of_row (cap := len) (Nat.le_refl _) (by omega) hs hcell hwz
end

theorem gcellsS : Try.prog.cellsOf 26 = 1 := by kernel_rfl
theorem gcellsF : Try.prog.cellsOf 27 = 1 := by kernel_rfl
theorem gcellsG : Try.prog.cellsOf 29 = 2 := by kernel_rfl
theorem gbytesG : Try.prog.bytesOf 29 = 48 := by kernel_rfl
theorem gbytesI : Try.prog.bytesOf 3 = 8 := by kernel_rfl
theorem gbytesF : Try.prog.bytesOf 35 = 8 := by kernel_rfl

section
variable {H : Type} {enc : TypeId × Value → H} {w : World} {base : Nat} {spare : Nat → Bool} {held : Bool}
/-- A tensor's two cells, opened. -/
theorem grid_sized {n : Nat} {v0 v1 : Value} {d0 d1 : DataW H} {p0 p1 : List MemPlace} (h0 : DataW.trod enc Try.prog w base spare held n 26 [v0] = some (d0, p0)) (h1 : DataW.trod enc Try.prog w base spare held n 27 [v1] = some (d1, p1))
    (w0 : ∀ n ∈ d0.weights Try.prog 26, n ≤ reachBytes) (w1 : ∀ n ∈ d1.weights Try.prog 27, n ≤ reachBytes) :
    ∃ t : TV, v0 = .slice t.sa t.sl t.sc ∧ v1 = .slice t.ca t.cl t.cc ∧ t.At w ∧ t.Cap := by
  obtain ⟨sa, sl, sc, ss, rfl, i0, l0, -, -⟩ := field_ints_sized Try.underlying26 Try.underlying3 (by kernel_rfl) gbytesI h0 w0
  obtain ⟨ca, cl, cc, cs, rfl, i1, l1, m1, m2⟩ := field_ints_sized Try.underlying27 Try.underlying35 (by kernel_rfl) gbytesF h1 w1
  exact ⟨⟨sa, sl, sc, ss, ca, cl, cc, cs⟩, rfl, rfl, ⟨i0, i1, l0, l1⟩, m1, m2⟩

theorem agg_weights {d0 d1 : DataW H} {n : Nat} (h : n ∈ d0.weights Try.prog 26 ∨ n ∈ d1.weights Try.prog 27) : n ∈ (DataW.agg [d0, d1]).weights Try.prog 29 := by
  simp only [DataW.weights, Try.underlying29]
  show n ∈ DataW.weightsEach Try.prog [26, 27] [d0, d1]
  simp only [DataW.weightsEach, List.mem_append, List.append_nil]
  exact h

theorem grid_one2 {fuel : Nat} {c0 c1 : Value} {x : DataW H × List MemPlace} (h : DataW.trod enc Try.prog w base spare held fuel 29 [c0, c1] = some x) (hw : ∀ n ∈ x.1.weights Try.prog 29, n ≤ reachBytes) :
    ∃ t : TV, c0 = .slice t.sa t.sl t.sc ∧ c1 = .slice t.ca t.cl t.cc ∧ t.At w ∧ t.Cap := by
  obtain ⟨xs, n, -, hxy, -, hxl, hat⟩ := DataW.trod_struct Try.underlying29 h
  match xs, hxl with
  | [(d0, p0), (d1, p1)], _ =>
    have h0 := hat 0 _ rfl
    have h1 := hat 1 _ rfl
    have g0 : DataW.trod enc Try.prog w base spare held n 26 (([c0, c1].drop 0).take (Try.prog.cellsOf 26)) = some (d0, p0) := h0
    have g1 : DataW.trod enc Try.prog w base spare held n 27 (([c0, c1].drop 1).take (Try.prog.cellsOf 27)) = some (d1, p1) := h1
    rw [gcellsS] at g0
    rw [gcellsF] at g1
    have ex : x.1 = .agg [d0, d1] := by rw [hxy]; rfl
    rw [ex] at hw
    exact grid_sized (n := n) (v0 := c0) (v1 := c1) g0 g1 (fun n hn => hw n (agg_weights (.inl hn))) (fun n hn => hw n (agg_weights (.inr hn)))

theorem grid_one {fuel : Nat} {c0 c1 : Value} {x : DataW H × List MemPlace} (h : DataW.trod enc Try.prog w base spare held fuel 29 [c0, c1] = some x) (hw : ∀ n ∈ x.1.weights Try.prog 29, n ≤ reachBytes) :
    ∃ t : TV, c0 = .slice t.sa t.sl t.sc ∧ c1 = .slice t.ca t.cl t.cc ∧ t.At w := by
  obtain ⟨t, a, b, c, -⟩ := grid_one2 h hw
  exact ⟨t, a, b, c⟩
end
end Go.Proofs.Ytieegaojcjhfdaa

/-
  Layer 7 in mathematics: numbers added to cells one after another; the products of a convolution in their order; windows.
-/
namespace Go.Proofs.Ytieegaojcjhfdaa
set_option linter.unusedVariables false
set_option linter.unusedSimpArgs false

/-- A number is added to the cell at a place. -/
def addAt (out : List Int) (k : Nat) (v : Int) : List Int := out.set k (sat (out.getD k 0 + v))
theorem addAt_length (out : List Int) (k : Nat) (v : Int) : (addAt out k v).length = out.length := by simp [addAt]
theorem addAt_same {out : List Int} {k : Nat} (v : Int) (h : k < out.length) : (addAt out k v).getD k 0 = sat (out.getD k 0 + v) := by
  simp [addAt, List.getD, h]
theorem addAt_other {out : List Int} {k j : Nat} (v : Int) (h : k ≠ j) : (addAt out k v).getD j 0 = out.getD j 0 := by
  simp [addAt, List.getD, List.getElem?_set_ne h]
/-- Numbers are added, one after another, each to the cell at its place, from noughts. -/
def runL (N : Nat) (ts : List (Nat × Int)) : List Int := ts.foldl (fun out t => addAt out t.1 t.2) (List.replicate N 0)
theorem runL_nil (N : Nat) : runL N [] = List.replicate N 0 := rfl
theorem runL_snoc (N : Nat) (ts : List (Nat × Int)) (t : Nat × Int) : runL N (ts ++ [t]) = addAt (runL N ts) t.1 t.2 := by simp [runL, List.foldl_append]
theorem runL_length (N : Nat) (ts : List (Nat × Int)) : (runL N ts).length = N := by
  unfold runL
  suffices h : ∀ (l : List Int), (ts.foldl (fun out t => addAt out t.1 t.2) l).length = l.length by rw [h]; simp
  induction ts with
  | nil => intro l; rfl
  | cons t r ih => intro l; rw [List.foldl_cons, ih, addAt_length]
theorem addAt_fits {out : List Int} (h : Fits out) (k : Nat) (v : Int) : Fits (addAt out k v) := by
  intro n hn
  unfold addAt at hn
  rcases List.mem_or_eq_of_mem_set hn with h' | rfl
  · exact h n h'
  · exact sat_bounds _
theorem runL_fits (N : Nat) (ts : List (Nat × Int)) : Fits (runL N ts) := by
  unfold runL
  suffices h : ∀ (l : List Int), Fits l → Fits (ts.foldl (fun out t => addAt out t.1 t.2) l) by
    refine h _ ?_
    intro n hn
    rw [List.mem_replicate] at hn
    omega
  induction ts with
  | nil => intro l h; exact h
  | cons t r ih => intro l h; rw [List.foldl_cons]; exact ih _ (addAt_fits h _ _)
/-- What was added to one place, in its order. -/
def atL (k : Nat) (ts : List (Nat × Int)) : List Int := (ts.filter fun t => t.1 == k).map fun t => t.2
theorem sumF_snoc (l : List Int) (x : Int) : sumF (l ++ [x]) = sat (sumF l + x) := by simp [sumF, List.foldl_append]
theorem runL_get {N k : Nat} (hk : k < N) (ts : List (Nat × Int)) : (runL N ts).getD k 0 = sumF (atL k ts) := by
  suffices h : ∀ (n : Nat) (l : List (Nat × Int)), l.length = n → (runL N l).getD k 0 = sumF (atL k l) from h _ ts rfl
  intro n
  induction n with
  | zero =>
    intro l hl
    obtain rfl := List.length_eq_zero_iff.1 hl
    simp [runL, atL, sumF, List.getD, hk]
  | succ n ih =>
    intro l hl
    obtain ⟨r, t, rfl⟩ : ∃ r t, l = r ++ [t] := by
      have hne : l ≠ [] := by intro e; subst e; simp at hl
      exact ⟨l.dropLast, l.getLast hne, (List.dropLast_concat_getLast hne).symm⟩
    have hr : r.length = n := by simp at hl; exact hl
    rw [runL_snoc]
    by_cases c : t.1 = k
    · subst c
      rw [addAt_same _ (by rw [runL_length]; exact hk), ih r hr]
      have : atL t.1 (r ++ [t]) = atL t.1 r ++ [t.2] := by simp [atL, List.filter_append]
      rw [this, sumF_snoc]
    · rw [addAt_other _ c, ih r hr]
      have : atL k (r ++ [t]) = atL k r := by simp [atL, List.filter_append, c]
      rw [this]

/-- A list put together of parts, one for each number below k. -/
def partsL {α : Type} (f : Nat → List α) (k : Nat) : List α := (List.range k).flatMap f
theorem partsL_zero {α : Type} (f : Nat → List α) : partsL f 0 = [] := by simp [partsL]
theorem partsL_succ {α : Type} (f : Nat → List α) (k : Nat) : partsL f (k + 1) = partsL f k ++ f k := by simp [partsL, List.range_succ, List.flatMap_append]
theorem partsL_length {α : Type} {f : Nat → List α} {n : Nat} (h : ∀ k, (f k).length = n) (k : Nat) : (partsL f k).length = k * n := by
  induction k with
  | zero => simp [partsL_zero]
  | succ k ih => rw [partsL_succ, List.length_append, ih, h, Nat.succ_mul]
theorem partsL_mem {α : Type} {f : Nat → List α} {k : Nat} {x : α} : x ∈ partsL f k ↔ ∃ j, j < k ∧ x ∈ f j := by
  simp [partsL, List.mem_flatMap]

/-- What comes together (numbers of the reference's plan), with the numbers of windows down and right. -/
structure PlanN where
  O : Nat
  C : Nat
  K : Nat
  L : Nat
  H : Nat
  W : Nat
  dn : Nat
  rt : Nat
  m : Nat
  n : Nat
/-- The three places of a product: in the answer, in the kernel, in what comes in. -/
def PlanN.a (p : PlanN) (o i j : Nat) : Nat := (o * p.m + i) * p.n + j
def PlanN.b (p : PlanN) (o c t u : Nat) : Nat := ((o * p.C + c) * p.K + t) * p.L + u
def PlanN.d (p : PlanN) (i j c t u : Nat) : Nat := (c * p.H + i * p.dn + t) * p.W + j * p.rt + u
abbrev Tri := Nat × Nat × Nat
def PlanN.lU (p : PlanN) (o i j c t k : Nat) : List Tri := partsL (fun u => [(p.a o i j, p.b o c t u, p.d i j c t u)]) k
def PlanN.lT (p : PlanN) (o i j c k : Nat) : List Tri := partsL (fun t => p.lU o i j c t p.L) k
def PlanN.lC (p : PlanN) (o i j k : Nat) : List Tri := partsL (fun c => p.lT o i j c p.K) k
def PlanN.lJ (p : PlanN) (o i k : Nat) : List Tri := partsL (fun j => p.lC o i j p.C) k
def PlanN.lI (p : PlanN) (o k : Nat) : List Tri := partsL (fun i => p.lJ o i p.n) k
def PlanN.lO (p : PlanN) (k : Nat) : List Tri := partsL (fun o => p.lI o p.m) k
/-- All products in their order. -/
def PlanN.all (p : PlanN) : List Tri := p.lO p.O
theorem PlanN.lU_succ (p : PlanN) (o i j c t k : Nat) : p.lU o i j c t (k + 1) = p.lU o i j c t k ++ [(p.a o i j, p.b o c t k, p.d i j c t k)] := partsL_succ _ _
theorem PlanN.lT_succ (p : PlanN) (o i j c k : Nat) : p.lT o i j c (k + 1) = p.lT o i j c k ++ p.lU o i j c k p.L := partsL_succ _ _
theorem PlanN.lC_succ (p : PlanN) (o i j k : Nat) : p.lC o i j (k + 1) = p.lC o i j k ++ p.lT o i j k p.K := partsL_succ _ _
theorem PlanN.lJ_succ (p : PlanN) (o i k : Nat) : p.lJ o i (k + 1) = p.lJ o i k ++ p.lC o i k p.C := partsL_succ _ _
theorem PlanN.lI_succ (p : PlanN) (o k : Nat) : p.lI o (k + 1) = p.lI o k ++ p.lJ o k p.n := partsL_succ _ _
theorem PlanN.lO_succ (p : PlanN) (k : Nat) : p.lO (k + 1) = p.lO k ++ p.lI k p.m := partsL_succ _ _
theorem PlanN.lU_zero (p : PlanN) (o i j c t : Nat) : p.lU o i j c t 0 = [] := partsL_zero _
theorem PlanN.lT_zero (p : PlanN) (o i j c : Nat) : p.lT o i j c 0 = [] := partsL_zero _
theorem PlanN.lC_zero (p : PlanN) (o i j : Nat) : p.lC o i j 0 = [] := partsL_zero _
theorem PlanN.lJ_zero (p : PlanN) (o i : Nat) : p.lJ o i 0 = [] := partsL_zero _
theorem PlanN.lI_zero (p : PlanN) (o : Nat) : p.lI o 0 = [] := partsL_zero _
theorem PlanN.lO_zero (p : PlanN) : p.lO 0 = [] := partsL_zero _
/-- How many products there are. -/
theorem PlanN.all_length (p : PlanN) : p.all.length = p.O * (p.m * (p.n * (p.C * (p.K * p.L)))) := by
  unfold PlanN.all PlanN.lO
  rw [partsL_length (n := p.m * (p.n * (p.C * (p.K * p.L))))]
  intro o
  unfold PlanN.lI
  rw [partsL_length (n := p.n * (p.C * (p.K * p.L)))]
  intro i
  unfold PlanN.lJ
  rw [partsL_length (n := p.C * (p.K * p.L))]
  intro j
  unfold PlanN.lC
  rw [partsL_length (n := p.K * p.L)]
  intro c
  unfold PlanN.lT
  rw [partsL_length (n := p.L)]
  intro t
  unfold PlanN.lU
  rw [partsL_length (n := 1)]
  · omega
  · intro u; rfl

/-- A number in a grid of two sides. -/
theorem two_in {m n i j : Nat} (hi : i < m) (hj : j < n) : i * n + j < m * n := by
  have : (i + 1) * n ≤ m * n := Nat.mul_le_mul_right n hi
  rw [Nat.add_mul, Nat.one_mul] at this
  omega
theorem PlanN.a_in (p : PlanN) {o i j : Nat} (ho : o < p.O) (hi : i < p.m) (hj : j < p.n) : p.a o i j < p.O * p.m * p.n := two_in (two_in ho hi) hj
theorem PlanN.b_in (p : PlanN) {o c t u : Nat} (ho : o < p.O) (hc : c < p.C) (ht : t < p.K) (hu : u < p.L) : p.b o c t u < p.O * p.C * p.K * p.L := two_in (two_in (two_in ho hc) ht) hu
theorem PlanN.d_in (p : PlanN) {i j c t u : Nat} (hc : c < p.C) (hy : i * p.dn + t < p.H) (hx : j * p.rt + u < p.W) : p.d i j c t u < p.C * p.H * p.W := by
  have h1 := two_in hc hy
  have h2 := two_in h1 hx
  unfold PlanN.d
  rw [← Nat.add_assoc, ← Nat.add_assoc] at h2
  exact h2

/-- In how many places a window fits; 0: none. -/
def winC (side width step : Nat) : Nat := if 1 ≤ width ∧ 1 ≤ step ∧ width ≤ side then (side - width) / step + 1 else 0
theorem winC_fits {side width step k : Nat} (hs : 1 ≤ step) (hw : 1 ≤ width) (h : width ≤ side) : k < winC side width step ↔ k * step + width ≤ side := by
  unfold winC
  rw [if_pos ⟨hw, hs, h⟩, Nat.lt_succ_iff, Nat.le_div_iff_mul_le (by omega)]
  omega
theorem winC_none {side width step : Nat} (h : side < width) : winC side width step = 0 := by
  unfold winC
  rw [if_neg (by omega)]
theorem winC_pos {side width step : Nat} (hs : 1 ≤ step) (hw : 1 ≤ width) (h : width ≤ side) : 1 ≤ winC side width step := by
  unfold winC
  rw [if_pos ⟨hw, hs, h⟩]
  exact Nat.le_add_left 1 _
theorem winC_le {side width step : Nat} (hs : 1 ≤ step) (hw : 1 ≤ width) (h : width ≤ side) : winC side width step ≤ side := by
  have h1 := (winC_fits (k := winC side width step - 1) hs hw h).1 (by have := winC_pos hs hw h; omega)
  have h2 : (winC side width step - 1) * 1 ≤ (winC side width step - 1) * step := Nat.mul_le_mul_left _ hs
  omega
/-- The reference's count of windows: it stands at k places, at · = k steps. -/
theorem winC_end {side width step k : Nat} (hs : 1 ≤ step) (hw : 1 ≤ width) (h : width ≤ side) (h1 : ¬ k * step + width ≤ side) (h2 : ∀ j, j < k → j * step + width ≤ side) : k = winC side width step := by
  have a := mt (winC_fits (k := k) hs hw h).1 h1
  by_cases c : k = 0
  · subst c; have := winC_pos hs hw h; omega
  · have b := (winC_fits (k := k - 1) hs hw h).2 (h2 (k - 1) (by omega))
    omega

/-- Members of the lists, level by level. -/
def PlanN.tri (p : PlanN) (o i j c t u : Nat) : Tri := (p.a o i j, p.b o c t u, p.d i j c t u)
theorem PlanN.lU_mem {p : PlanN} {o i j c t k : Nat} {x : Tri} (h : x ∈ p.lU o i j c t k) : ∃ u, u < k ∧ x = p.tri o i j c t u := by
  obtain ⟨u, hu, hx⟩ := partsL_mem.1 h
  exact ⟨u, hu, List.mem_singleton.1 hx⟩
theorem PlanN.lT_mem {p : PlanN} {o i j c k : Nat} {x : Tri} (h : x ∈ p.lT o i j c k) : ∃ t u, t < k ∧ u < p.L ∧ x = p.tri o i j c t u := by
  obtain ⟨t, ht, hx⟩ := partsL_mem.1 h
  obtain ⟨u, hu, e⟩ := PlanN.lU_mem hx
  exact ⟨t, u, ht, hu, e⟩
theorem PlanN.lC_mem {p : PlanN} {o i j k : Nat} {x : Tri} (h : x ∈ p.lC o i j k) : ∃ c t u, c < k ∧ t < p.K ∧ u < p.L ∧ x = p.tri o i j c t u := by
  obtain ⟨c, hc, hx⟩ := partsL_mem.1 h
  obtain ⟨t, u, ht, hu, e⟩ := PlanN.lT_mem hx
  exact ⟨c, t, u, hc, ht, hu, e⟩
theorem PlanN.lJ_mem {p : PlanN} {o i k : Nat} {x : Tri} (h : x ∈ p.lJ o i k) : ∃ j c t u, j < k ∧ c < p.C ∧ t < p.K ∧ u < p.L ∧ x = p.tri o i j c t u := by
  obtain ⟨j, hj, hx⟩ := partsL_mem.1 h
  obtain ⟨c, t, u, hc, ht, hu, e⟩ := PlanN.lC_mem hx
  exact ⟨j, c, t, u, hj, hc, ht, hu, e⟩
theorem PlanN.lI_mem {p : PlanN} {o k : Nat} {x : Tri} (h : x ∈ p.lI o k) : ∃ i j c t u, i < k ∧ j < p.n ∧ c < p.C ∧ t < p.K ∧ u < p.L ∧ x = p.tri o i j c t u := by
  obtain ⟨i, hi, hx⟩ := partsL_mem.1 h
  obtain ⟨j, c, t, u, hj, hc, ht, hu, e⟩ := PlanN.lJ_mem hx
  exact ⟨i, j, c, t, u, hi, hj, hc, ht, hu, e⟩
theorem PlanN.lO_mem {p : PlanN} {k : Nat} {x : Tri} (h : x ∈ p.lO k) : ∃ o i j c t u, o < k ∧ i < p.m ∧ j < p.n ∧ c < p.C ∧ t < p.K ∧ u < p.L ∧ x = p.tri o i j c t u := by
  obtain ⟨o, ho, hx⟩ := partsL_mem.1 h
  obtain ⟨i, j, c, t, u, hi, hj, hc, ht, hu, e⟩ := PlanN.lI_mem hx
  exact ⟨o, i, j, c, t, u, ho, hi, hj, hc, ht, hu, e⟩
/-- Every window lies within what comes in. -/
structure PlanN.Ok (p : PlanN) : Prop where
  down : ∀ i, i < p.m → i * p.dn + p.K ≤ p.H
  right : ∀ j, j < p.n → j * p.rt + p.L ≤ p.W
theorem PlanN.all_in {p : PlanN} (h : p.Ok) {x : Tri} (hx : x ∈ p.all) : x.1 < p.O * p.m * p.n ∧ x.2.1 < p.O * p.C * p.K * p.L ∧ x.2.2 < p.C * p.H * p.W := by
  obtain ⟨o, i, j, c, t, u, ho, hi, hj, hc, ht, hu, rfl⟩ := PlanN.lO_mem hx
  have := h.down i hi
  have := h.right j hj
  exact ⟨p.a_in ho hi hj, p.b_in ho hc ht hu, p.d_in hc (by omega) (by omega)⟩

theorem lex_lt {n i i' j : Nat} (j' : Nat) (hi : i < i') (hj : j < n) : i * n + j < i' * n + j' := by
  have : (i + 1) * n ≤ i' * n := Nat.mul_le_mul_right n hi
  rw [Nat.add_mul, Nat.one_mul] at this
  omega
theorem lex_same {n i j j' : Nat} (hj : j < j') : i * n + j < i * n + j' := by omega
/-- A product that comes later: another cell of the answer, or the same with greater places. -/
def later (x y : Tri) : Prop := x.1 < y.1 ∨ (x.1 = y.1 ∧ x.2.1 < y.2.1 ∧ x.2.2 < y.2.2)
theorem partsL_pairwise {α : Type} {R : α → α → Prop} {f : Nat → List α} {k : Nat} (h1 : ∀ j, j < k → (f j).Pairwise R) (h2 : ∀ i j, i < j → j < k → ∀ x ∈ f i, ∀ y ∈ f j, R x y) : (partsL f k).Pairwise R := by
  induction k with
  | zero => rw [partsL_zero]; exact List.Pairwise.nil
  | succ k ih =>
    rw [partsL_succ, List.pairwise_append]
    refine ⟨ih (fun j hj => h1 j (by omega)) (fun i j hij hj => h2 i j hij (by omega)), h1 k (by omega), ?_⟩
    intro x hx y hy
    obtain ⟨i, hi, hx⟩ := partsL_mem.1 hx
    exact h2 i k hi (by omega) x hx y hy
theorem PlanN.sorted {p : PlanN} (h : p.Ok) : p.all.Pairwise later := by
  unfold PlanN.all PlanN.lO
  refine partsL_pairwise (fun o ho => ?_) (fun o o' hoo ho x hx y hy => ?_)
  · unfold PlanN.lI
    refine partsL_pairwise (fun i hi => ?_) (fun i i' hii hi x hx y hy => ?_)
    · unfold PlanN.lJ
      refine partsL_pairwise (fun j hj => ?_) (fun j j' hjj hj x hx y hy => ?_)
      · have hd := h.down i hi
        have hr := h.right j hj
        unfold PlanN.lC
        refine partsL_pairwise (fun c hc => ?_) (fun c c' hcc hc x hx y hy => ?_)
        · unfold PlanN.lT
          refine partsL_pairwise (fun t ht => ?_) (fun t t' htt ht x hx y hy => ?_)
          · unfold PlanN.lU
            refine partsL_pairwise (fun u hu => List.pairwise_singleton _ _) (fun u u' huu hu x hx y hy => ?_)
            rw [List.mem_singleton] at hx hy
            subst hx hy
            refine .inr ⟨rfl, ?_, ?_⟩
            · show p.b o c t u < p.b o c t u'
              unfold PlanN.b; omega
            · show p.d i j c t u < p.d i j c t u'
              unfold PlanN.d; omega
          · obtain ⟨u, hu, rfl⟩ := PlanN.lU_mem hx
            obtain ⟨u', hu', rfl⟩ := PlanN.lU_mem hy
            refine .inr ⟨rfl, lex_lt _ (lex_same htt) hu, ?_⟩
            show p.d i j c t u < p.d i j c t' u'
            unfold PlanN.d
            have := lex_lt (n := p.W) (i := c * p.H + i * p.dn + t) (i' := c * p.H + i * p.dn + t') (j := j * p.rt + u) (j * p.rt + u') (by omega) (by omega)
            omega
        · obtain ⟨t, u, ht, hu, rfl⟩ := PlanN.lT_mem hx
          obtain ⟨t', u', ht', hu', rfl⟩ := PlanN.lT_mem hy
          refine .inr ⟨rfl, lex_lt _ (lex_lt _ (lex_same hcc) ht) hu, ?_⟩
          show p.d i j c t u < p.d i j c' t' u'
          unfold PlanN.d
          have h1 := lex_lt (n := p.H) (i := c) (i' := c') (j := i * p.dn + t) (i * p.dn + t') hcc (by omega)
          have h2 := lex_lt (n := p.W) (i := c * p.H + i * p.dn + t) (i' := c' * p.H + i * p.dn + t') (j := j * p.rt + u) (j * p.rt + u') (by omega) (by omega)
          omega
      · obtain ⟨c, t, u, -, -, -, rfl⟩ := PlanN.lC_mem hx
        obtain ⟨c', t', u', -, -, -, rfl⟩ := PlanN.lC_mem hy
        exact .inl (lex_same hjj)
    · obtain ⟨j, c, t, u, hj, -, -, -, rfl⟩ := PlanN.lJ_mem hx
      obtain ⟨j', c', t', u', hj', -, -, -, rfl⟩ := PlanN.lJ_mem hy
      exact .inl (lex_lt _ (lex_same hii) hj)
  · obtain ⟨i, j, c, t, u, hi, hj, -, -, -, rfl⟩ := PlanN.lI_mem hx
    obtain ⟨i', j', c', t', u', hi', hj', -, -, -, rfl⟩ := PlanN.lI_mem hy
    exact .inl (lex_lt _ (lex_lt _ hoo hi) hj)
end Go.Proofs.Ytieegaojcjhfdaa

/-
  Windows: the code's and the reference's; small words. (Moved here from the texts of layer 7.)
-/
namespace Go.Proofs.Ytieegaojcjhfdaa
open Go.RowKit
set_option linter.unusedVariables false
set_option linter.unusedSimpArgs false

theorem winE_ok {side width step : Int} (h : winE side width step = 0) : (1 ≤ side ∧ side ≤ 1024) ∧ (1 ≤ width ∧ width ≤ 1024) ∧ (1 ≤ step ∧ step ≤ 1024) ∧ width ≤ side := by
  unfold winE at h
  by_cases c : inR 1 1024 side = true ∧ inR 1 1024 width = true ∧ inR 1 1024 step = true ∧ width ≤ side
  · obtain ⟨a, b, d, e⟩ := c
    exact ⟨inR_bounds a, inR_bounds b, inR_bounds d, e⟩
  · rw [if_neg c] at h; omega
theorem winN_nat {side width step : Nat} (h : winE side width step = 0) : winN side width step = (winC side width step : Nat) := by
  obtain ⟨⟨a1, a2⟩, ⟨b1, b2⟩, ⟨c1, c2⟩, e⟩ := winE_ok h
  have hc : inR 1 1024 (side : Int) = true ∧ inR 1 1024 (width : Int) = true ∧ inR 1 1024 (step : Int) = true ∧ (width : Int) ≤ side := by
    refine ⟨?_, ?_, ?_, e⟩ <;> (unfold inR; simp; omega)
  unfold winN winC
  rw [if_pos hc, if_pos (by omega)]
  have : ((side : Int) - (width : Int)) = ((side - width : Nat) : Int) := by omega
  rw [this]
  simp
  omega
theorem win_at {side width step k : Nat} (hs : 1 ≤ step) (hw : 1 ≤ width) (h : width ≤ side) (hk : k < winC side width step) : k * step + width ≤ side := (winC_fits hs hw h).1 hk
theorem nat_of {z : Int} (h : 0 ≤ z) : ∃ n : Nat, z = n := ⟨z.toNat, by omega⟩
theorem winE_or (n k s : Int) : winE n k s = 0 ∨ winE n k s = 11 := by unfold winE; split <;> simp
theorem winN_bounds (n k s : Int) : 0 ≤ winN n k s ∧ winN n k s ≤ 1024 := by
  unfold winN
  split
  · rename_i c
    obtain ⟨a, b, d, e⟩ := c
    have a' := inR_bounds a
    have b' := inR_bounds b
    have d' := inR_bounds d
    have h1 := Int.ediv_nonneg (a := n - k) (b := s) (by omega) (by omega)
    have h2 := Int.ediv_le_self (a := n - k) s (by omega)
    omega
  · omega
theorem winN_zero {side width step : Int} (h : ¬ (1 ≤ side ∧ 1 ≤ width ∧ 1 ≤ step ∧ side ≤ 1024 ∧ width ≤ 1024 ∧ step ≤ 1024 ∧ width ≤ side)) : 0 = winN side width step := by
  unfold winN
  rw [if_neg]
  rintro ⟨a, b, c, d⟩
  have := inR_bounds a
  have := inR_bounds b
  have := inR_bounds c
  omega
theorem winE_zero {side width step : Int} (h : 1 ≤ side ∧ 1 ≤ width ∧ 1 ≤ step ∧ side ≤ 1024 ∧ width ≤ 1024 ∧ step ≤ 1024 ∧ width ≤ side) : winE side width step = 0 := by
  unfold winE
  rw [if_pos]
  exact ⟨inR_yes h.1 h.2.2.2.1, inR_yes h.2.1 h.2.2.2.2.1, inR_yes h.2.2.1 h.2.2.2.2.2.1, h.2.2.2.2.2.2⟩
theorem win_sign (side width step : Int) : (winE side width step = 0 → 1 ≤ winN side width step) ∧ (winE side width step ≠ 0 → winN side width step = 0) := by
  unfold winE winN
  split
  · rename_i h
    obtain ⟨a, b, c, d⟩ := h
    have := inR_bounds c
    have h1 := Int.ediv_nonneg (a := side - width) (b := step) (by omega) (by omega)
    exact ⟨fun _ => by omega, fun h => absurd rfl h⟩
  · exact ⟨fun h => by omega, fun _ => rfl⟩
theorem ints_cell {w : World} {a : Option Addr} {n : Nat} {zs : List Int} (h : IntsAt w a n zs) (hn : 0 < n) : ∃ b off, a = some ⟨b, off, none⟩ ∧ ∀ j, j < n → w.cell? ⟨b, off + j, none⟩ = some (.int .i64 (zs.getD j 0)) := by
  rcases h.2.2.2 with h4 | h4
  · omega
  · exact h4
/-- The sides lie within their row. -/
def TV.CapS (t : TV) : Prop := t.sl ≤ t.sc ∧ t.sc ≤ 9223372036854775807
/-- Is what comes back of the answer's shape? -/
def gOk (G : TV) (os : List Int) : Bool := rightT G.ss G.cl && sameL G.ss os
theorem row_caps {w : World} {B : Nat} {e : TypeId} {A : Option Addr} {l c n : Nat} {xs : List Value} (h : w.ownsRow B e 1 (.slice A l c) n xs) : l ≤ c ∧ c ≤ 9223372036854775807 := by
  rcases h.2 with ⟨hv, -⟩ | ⟨g, cap, cur, hv, -, -, h1, h2, -, -⟩
  · simp only [Value.slice.injEq] at hv
    obtain ⟨-, rfl, rfl⟩ := hv
    exact ⟨Nat.le_refl _, by omega⟩
  · simp only [Value.slice.injEq] at hv
    obtain ⟨-, rfl, rfl⟩ := hv
    exact ⟨h1, by unfold maxLen at h2; omega⟩
end Go.Proofs.Ytieegaojcjhfdaa

/-
  A tensor as an argument.
-/
namespace Go.Proofs.Ytieegaojcjhfdaa
open Go.RowKit Go.ChangeShapes Go.WideShapes Go.Deep
set_option linter.unusedVariables false
set_option linter.unusedSimpArgs false

set_option maxRecDepth 100000 in
theorem grid_arg {H : Type} {enc : TypeId × Value → H} {w : World} {base : Nat} {spare : Nat → Bool} {held : Bool} {r : Reach} {b0 : Nat} {v : Value} {d : DataW H} {p : List MemPlace} (hv : Value.okWide Try.prog w r b0 29 v)
    (h : DataW.Trod enc Try.prog w base spare held 29 v d p) (hw : ∀ n ∈ d.weights Try.prog 29, n ≤ reachBytes) :
    ∃ t : TV, v = .agg #[.slice (TV.sa t) (TV.sl t) (TV.sc t), .slice (TV.ca t) (TV.cl t) (TV.cc t)] ∧ t.At w ∧ t.Cap := by
  obtain ⟨⟨l⟩, rfl, hsz⟩ := okWide_struct Try.underlying29 hv
  obtain ⟨fuel, hf⟩ := h
  replace hsz : l.length = Try.prog.cellsOf 29 := hsz
  rw [gcellsG] at hsz
  match l, hsz with
  | [c0, c1], _ =>
    obtain ⟨t, e0, e1, A, C⟩ := grid_one2 (x := (d, p)) hf hw
    subst e0 e1
    exact ⟨t, rfl, A, C⟩
section
variable {H : Type} {enc : TypeId × Value → H} {w : World} {base : Nat} {spare : Nat → Bool} {held : Bool}
theorem grid_sized3 {n : Nat} {v0 v1 : Value} {d0 d1 : DataW H} {p0 p1 : List MemPlace} (h0 : DataW.trod enc Try.prog w base spare held n 26 [v0] = some (d0, p0)) (h1 : DataW.trod enc Try.prog w base spare held n 27 [v1] = some (d1, p1))
    (w0 : ∀ n ∈ d0.weights Try.prog 26, n ≤ reachBytes) (w1 : ∀ n ∈ d1.weights Try.prog 27, n ≤ reachBytes) :
    ∃ t : TV, v0 = .slice t.sa t.sl t.sc ∧ v1 = .slice t.ca t.cl t.cc ∧ t.At w ∧ t.Cap ∧ t.CapS := by
  obtain ⟨sa, sl, sc, ss, rfl, i0, l0, k1, k2⟩ := field_ints_sized Try.underlying26 Try.underlying3 (by kernel_rfl) gbytesI h0 w0
  obtain ⟨ca, cl, cc, cs, rfl, i1, l1, m1, m2⟩ := field_ints_sized Try.underlying27 Try.underlying35 (by kernel_rfl) gbytesF h1 w1
  exact ⟨⟨sa, sl, sc, ss, ca, cl, cc, cs⟩, rfl, rfl, ⟨i0, i1, l0, l1⟩, ⟨m1, m2⟩, k1, k2⟩
theorem grid_one3 {fuel : Nat} {c0 c1 : Value} {x : DataW H × List MemPlace} (h : DataW.trod enc Try.prog w base spare held fuel 29 [c0, c1] = some x) (hw : ∀ n ∈ x.1.weights Try.prog 29, n ≤ reachBytes) :
    ∃ t : TV, c0 = .slice t.sa t.sl t.sc ∧ c1 = .slice t.ca t.cl t.cc ∧ t.At w ∧ t.Cap ∧ t.CapS := by
  obtain ⟨xs, n, -, hxy, -, hxl, hat⟩ := DataW.trod_struct Try.underlying29 h
  match xs, hxl with
  | [(d0, p0), (d1, p1)], _ =>
    have h0 := hat 0 _ rfl
    have h1 := hat 1 _ rfl
    have g0 : DataW.trod enc Try.prog w base spare held n 26 (([c0, c1].drop 0).take (Try.prog.cellsOf 26)) = some (d0, p0) := h0
    have g1 : DataW.trod enc Try.prog w base spare held n 27 (([c0, c1].drop 1).take (Try.prog.cellsOf 27)) = some (d1, p1) := h1
    rw [gcellsS] at g0
    rw [gcellsF] at g1
    have ex : x.1 = .agg [d0, d1] := by rw [hxy]; rfl
    rw [ex] at hw
    exact grid_sized3 (n := n) (v0 := c0) (v1 := c1) g0 g1 (fun n hn => hw n (agg_weights (.inl hn))) (fun n hn => hw n (agg_weights (.inr hn)))

theorem gcellsI : Try.prog.cellsOf 3 = 1 := by kernel_rfl
/-- A shape as an argument: a tensor's value without cells. -/
theorem shape_tv {a : Option Addr} {l c : Nat} {zs : List Int} (i : IntsAt w a l zs) (l0 : l ≤ 17592186044416) : TV.At ⟨a, l, c, zs, none, 0, 0, []⟩ w := ⟨i, IntsAt.nil _ _, l0, Nat.zero_le _⟩
set_option maxRecDepth 100000 in
theorem shape_arg {r : Reach} {b0 : Nat} {v : Value} {d : DataW H} {p : List MemPlace} (hv : Value.okWide Try.prog w r b0 26 v)
    (h : DataW.Trod enc Try.prog w base spare held 26 v d p) (hw : ∀ n ∈ d.weights Try.prog 26, n ≤ reachBytes) :
    ∃ t : TV, v = .slice (TV.sa t) (TV.sl t) (TV.sc t) ∧ (t.At w ∧ t.CapS) := by
  obtain ⟨a, l, c, rfl⟩ := okWide_slice Try.underlying26 hv
  obtain ⟨fuel, hf⟩ := h
  obtain ⟨sa, sl, sc, ss, e, i0, l0, k1, k2⟩ := field_ints_sized (x := (d, p)) (c := .slice a l c) Try.underlying26 Try.underlying3 (by kernel_rfl) gbytesI hf hw
  exact ⟨⟨sa, sl, sc, ss, none, 0, 0, []⟩, e, shape_tv i0 l0, k1, k2⟩
end
end Go.Proofs.Ytieegaojcjhfdaa

/-
  Lists of tensors: a slice of tensors in memory, and as an argument.
-/
namespace Go.Proofs.Ytieegaojcjhfdaa
open Go.RowKit Go.ChangeShapes Go.WideShapes Go.Deep
set_option linter.unusedVariables false
set_option linter.unusedSimpArgs false

/-- A slice holds these tensors. -/
def GsAt (w : World) (a : Option Addr) (len : Nat) (ts : List TV) : Prop :=
  ts.length = len ∧ len ≤ 2932031007402 ∧ (∀ t ∈ ts, t.At w) ∧ (len = 0 ∨ ∃ b off, a = some ⟨b, off, none⟩ ∧ ∀ j t, ts[j]? = some t → w.cell? ⟨b, off + j * 2, none⟩ = some (.slice t.sa t.sl t.sc) ∧ w.cell? ⟨b, off + j * 2 + 1, none⟩ = some (.slice t.ca t.cl t.cc))
theorem GsAt.nil (w : World) (a : Option Addr) : GsAt w a 0 [] := ⟨rfl, by omega, (fun n hn => (List.not_mem_nil hn).elim), .inl rfl⟩
theorem GsAt.kept {w w' : World} {a : Option Addr} {len : Nat} {ts : List TV} (h : GsAt w a len ts) (hb : Below w.heap.size w w') : GsAt w' a len ts := by
  obtain ⟨h1, h2, h3, h4⟩ := h
  refine ⟨h1, h2, fun t ht => (h3 t ht).kept hb, ?_⟩
  rcases h4 with h4 | ⟨b, off, ha, hc⟩
  · exact .inl h4
  · exact .inr ⟨b, off, ha, fun j t hj => ⟨cell_later hb (hc j t hj).1, cell_later hb (hc j t hj).2⟩⟩
theorem GsAt.at {w : World} {a : Option Addr} {len : Nat} {ts : List TV} (h : GsAt w a len ts) {k : Nat} (hk : k < len) :
    ∃ t b off, ts[k]? = some t ∧ a = some ⟨b, off, none⟩ ∧ w.cell? ⟨b, off + k * 2, none⟩ = some (.slice t.sa t.sl t.sc) ∧ w.cell? ⟨b, off + k * 2 + 1, none⟩ = some (.slice t.ca t.cl t.cc) ∧ t.At w := by
  obtain ⟨h1, h2, h3, h4⟩ := h
  rcases h4 with h4 | ⟨b, off, ha, hc⟩
  · omega
  · have e : ts[k]? = some (ts[k]'(by omega)) := List.getElem?_eq_getElem (by omega)
    exact ⟨_, b, off, e, ha, (hc k _ e).1, (hc k _ e).2, h3 _ (List.getElem_mem _)⟩

theorem weightsAll_mem {H : Type} {P : Program} {e : TypeId} : ∀ {l : List (DataW H)} {d : DataW H}, d ∈ l → ∀ n ∈ d.weights P e, n ∈ DataW.weightsAll P e l
  | x :: r, d, hd, n, hn => by
    simp only [DataW.weightsAll, List.mem_append]
    rcases List.mem_cons.1 hd with rfl | hd
    · exact .inl hn
    · exact .inr (weightsAll_mem hd n hn)

section
variable {H : Type} {enc : TypeId × Value → H} {w : World} {base : Nat} {spare : Nat → Bool} {held : Bool}
theorem grids_cell {fuel : Nat} {c : Value} {x : DataW H × List MemPlace} (h : DataW.trod enc Try.prog w base spare held fuel 22 [c] = some x) (hw : ∀ n ∈ x.1.weights Try.prog 22, n ≤ reachBytes) :
    ∃ a len cap ts, c = .slice a len cap ∧ GsAt w a len ts := by
  rcases open_slice_pairs Try.underlying22 Try.underlying29 gcellsG rfl rfl gcellsS gcellsF h with ⟨hcs, -⟩ | ⟨a, len, cap, m, n, V0, V1, D0, D1, P0, P1, hcs, hb, hl, hm, hmm, rfl, hx⟩
  · obtain rfl := (List.cons.inj hcs).1
    exact ⟨_, _, _, _, rfl, GsAt.nil _ _⟩
  · obtain rfl := (List.cons.inj hcs).1
    have hlm : len ≤ m := by rw [hmm]; split <;> omega
    have hw1 := hw (m * 48) (by
      simp only [DataW.weights, Try.underlying22, List.mem_cons, gbytesG]
      refine .inl ?_
      simp
      omega)
    have hr : reachBytes = 140737488351232 := by decide
    rw [hr] at hw1
    have each : ∀ i, i < len → ∃ t : TV, V0 i = .slice t.sa t.sl t.sc ∧ V1 i = .slice t.ca t.cl t.cc ∧ t.At w := by
      intro i hi
      obtain ⟨-, -, g0, g1⟩ := hx i (by omega)
      have hin : ∀ n, n ∈ (DataW.agg [D0 i, D1 i]).weights Try.prog 29 → n ≤ reachBytes := fun n hn => hw n (by
        simp only [DataW.weights, Try.underlying22, List.mem_cons, List.mem_append]
        exact .inr (.inl (weightsAll_mem (List.mem_map.2 ⟨i, List.mem_range.2 hi, rfl⟩) n hn)))
      obtain ⟨t, e1, e2, e3, -⟩ := grid_sized g0 g1 (fun n hn => hin n (agg_weights (.inl hn))) (fun n hn => hin n (agg_weights (.inr hn)))
      exact ⟨t, e1, e2, e3⟩
    obtain ⟨f, hf⟩ := choose_lt each
    refine ⟨_, _, cap, (List.range len).map f, rfl, by simp, by omega, ?_, ?_⟩
    · intro t ht
      obtain ⟨i, hi, rfl⟩ := List.mem_map.1 ht
      exact (hf i (List.mem_range.1 hi)).2.2
    · by_cases h0 : len = 0
      · exact .inl h0
      · obtain ⟨b, off, spot⟩ := a
        have hspot : spot = none := by simpa [Addr.add] using World.cell?_spot (hx 0 (by omega)).1
        subst hspot
        refine .inr ⟨b, off, rfl, fun j t hj => ?_⟩
        rw [List.getElem?_map] at hj
        obtain ⟨i, hi, rfl⟩ := Option.map_eq_some_iff.1 hj
        obtain ⟨hlt, rfl⟩ : j < len ∧ j = i := by
          obtain ⟨h1, h2⟩ := List.getElem?_eq_some_iff.1 hi
          rw [List.length_range] at h1
          rw [List.getElem_range] at h2
          exact ⟨h1, h2⟩
        obtain ⟨c0, c1, -, -⟩ := hx j (by omega)
        rw [add_plain] at c0 c1
        rw [(hf j hlt).1] at c0
        rw [(hf j hlt).2.1] at c1
        exact ⟨c0, by rw [Nat.add_assoc]; exact c1⟩

set_option maxRecDepth 100000 in
/-- .. as an argument. -/
theorem grids_open {r : Reach} {b0 : Nat} {v : Value} {d : DataW H} {p : List MemPlace} (hv : Value.okWide Try.prog w r b0 22 v) (h : DataW.Trod enc Try.prog w base spare held 22 v d p)
    (hw : ∀ n ∈ d.weights Try.prog 22, n ≤ reachBytes) : ∃ a len cap ts, v = .slice a len cap ∧ GsAt w a len ts := by
  obtain ⟨a, len, cap, rfl⟩ := okWide_slice Try.underlying22 hv
  obtain ⟨fuel, hf⟩ := h
  exact grids_cell (c := .slice a len cap) hf hw
end
end Go.Proofs.Ytieegaojcjhfdaa

