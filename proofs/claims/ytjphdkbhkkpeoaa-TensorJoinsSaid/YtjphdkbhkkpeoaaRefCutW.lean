/-
  Contracts of the reference of layer 4 and of the statements' file: Cut; same.
-/
import Derived.Test.YtjphdkbhkkpeoaaRefTW
namespace Go.Proofs.Ytjphdkbhkkpeoaa
open Go.RowKit
set_option linter.unusedVariables false
set_option linter.unusedSimpArgs false

theorem take_snoc {cs : List Int} (d c : Nat) (h : d + c < cs.length) : (cs.drop d).take (c + 1) = (cs.drop d).take c ++ [cs.getD (d + c) 0] := by
  rw [List.take_add_one, List.getElem?_drop]
  simp [List.getD, List.getElem?_eq_getElem h]

/-- What is to be appended lies in a new block. -/
structure Snoc (w0 wr : World) (x : Int) (L0 : List Value) (t : Value) (len : Nat) : Prop where
  row : (wr.alloc (.cells #[.int .i64 x] 2)).ownsRow w0.heap.size 2 1 t len L0
  new : ∀ j u, [Value.int .i64 x][j]? = some u → (wr.alloc (.cells #[.int .i64 x] 2)).cell? ((⟨wr.heap.size, 0, none⟩ : Addr).add j) = some u
  one : ∀ u ∈ [Value.int .i64 x], u.oneCell' = true
  room : len + 1 ≤ maxLen
  bytes : (len + 1) * 8 ≤ 140737488355328
  size : w0.heap.size ≤ (wr.alloc (.cells #[.int .i64 x] 2)).heap.size
theorem snoc_of {w0 wr : World} {L0 : List Value} {t : Value} {len : Nat} (x : Int) (h : wr.ownsRow w0.heap.size 2 1 t len L0) (hb : Below w0.heap.size w0 wr) (hl : len ≤ 1000) : Snoc w0 wr x L0 t len :=
  ⟨h.alloc _, box_cell wr x _, (by intro u hu; simp at hu; subst hu; rfl), by unfold maxLen; omega, by omega, by have := hb.size; simp; omega⟩
theorem snoc_below {w0 wr w5 : World} {L0 : List Value} {t : Value} {len : Nat} {x : Int} (h : wr.ownsRow w0.heap.size 2 1 t len L0) (hb : Below w0.heap.size w0 wr) (hg : (wr.alloc (.cells #[.int .i64 x] 2)).grownBy w5 t.ownBlock) : Below w0.heap.size w0 w5 :=
  (hb.alloc hb.size (.cells #[.int .i64 x] 2)).grown hg (by have := hb.size; simp; omega) (fun q' hq' => (h.lt q' hq').1)

/-- The list under way: whole blocks, and the first c numbers of the next part. -/
def midP (cs : List Int) (n lo wd a c : Nat) : List Int := cutP cs n lo wd a ++ (cs.drop (a * n + lo)).take c
theorem midP_zero (cs : List Int) (n lo wd a : Nat) : midP cs n lo wd a 0 = cutP cs n lo wd a := by simp [midP]
theorem midP_full (cs : List Int) (n lo wd a : Nat) : midP cs n lo wd a wd = cutP cs n lo wd (a + 1) := rfl
theorem midP_snoc {cs : List Int} {n lo wd a c : Nat} (h : a * n + lo + c < cs.length) : midP cs n lo wd a (c + 1) = midP cs n lo wd a c ++ [cs.getD (a * n + lo + c) 0] := by
  unfold midP; rw [take_snoc _ _ h, List.append_assoc]

set_option maxRecDepth 100000 in
set_option maxHeartbeats 4000000 in
theorem refcut_any (sa : Option Addr) (sl sc : Nat) (ss : List Int) (da : Option Addr) (dl dc : Nat) (cs : List Int) (k f t x p M n lo wd : Nat) (w : World) (h : IntsAt w sa sl ss) (hcap : sl ≤ sc) (hcm : sc ≤ 9223372036854775807)
    (hd : IntsAt w da dl cs) (hl : dl ≤ 1000) (hr : rightS ss = true) (hk : k < sl) (hx : ss.getD k 0 = x) (hp : prodI (ss.drop (k + 1)) = p) (hM : prodI (ss.take k) = M) (hL : dl = M * n) (hn : n = x * p) (hlo : lo = f * p) (hwd : wd = (t - f) * p)
    (h1 : f < t) (h2 : t ≤ x) :
    Calls Try.prog 25 #[.slice sa sl sc, .slice da dl dc, .int .i64 k, .int .i64 f, .int .i64 t] w
      fun e w' => ∃ A cap, e = .returned (.slice A (M * wd) cap) ∧ w'.ownsRow w.heap.size 2 1 (.slice A (M * wd) cap) (M * wd) ((cutP cs n lo wd M).map (Value.int .i64)) ∧ Below w.heap.size w w' := by
  have hall := (rightS_parts hr).2.2.1
  have hsl := h.1
  have hp1 : 1 ≤ p := by have := prodI_pos (allR_drop hall (k + 1)); omega
  have hM1 : 1 ≤ M := by have := prodI_pos (allR_take hall k); omega
  have hlw : lo + wd ≤ n := by
    rw [hn, hlo, hwd, ← Nat.add_mul]
    exact Nat.mul_le_mul_right p (by omega)
  have hwd1 : 1 ≤ wd := by rw [hwd]; exact Nat.mul_pos (by omega) hp1
  have hn6 : n ≤ 1000 := by have := Nat.mul_le_mul_right n hM1; omega
  have hM6 : M ≤ 1000 := by have := Nat.le_mul_of_pos_right M (show 0 < n by omega); omega
  have hx6 : x ≤ 1000 := by have := Nat.le_mul_of_pos_right x hp1; omega
  have PA := parts_any sa sl sc ss k w h hk hcap hcm hr
  rw [hM, hp] at PA
  have PA' := Lib.hid PA
  have HS := Lib.hid (fun w1 (hb : Below w.heap.size w w1) => h.kept hb)
  have HD := Lib.hid (fun w1 (hb : Below w.heap.size w w1) => hd.kept hb)
  have hdl := Lib.hid hd.1
  have HX := Lib.hid hx
  have HL := Lib.hid hL
  have HN := Lib.hid hn
  have HO := Lib.hid hlo
  have HW := Lib.hid hwd
  obtain ⟨i0, hi, hz0, hz1, hz2⟩ := info_parts i64Info
  obtain ⟨sb, so, rfl, -⟩ : ∃ b off, sa = some ⟨b, off, none⟩ ∧ True := by
    rcases h.2.2.2 with h5 | ⟨b, off, ha, _⟩
    · omega
    · exact ⟨b, off, ha, trivial⟩
  obtain ⟨db, dof, rfl, -⟩ : ∃ b off, da = some ⟨b, off, none⟩ ∧ True := by
    rcases hd.2.2.2 with h5 | ⟨b, off, ha, _⟩
    · have := Nat.mul_le_mul hM1 (show 1 ≤ n by omega); omega
    · exact ⟨b, off, ha, trivial⟩
  have hk' : (k : Int) < (sl : Int) := by omega
  clear PA h hd hx hL hn hlo hwd hp hM hall hsl hr
  go_enter Try.func25, Try.ntmps25
  go_wp2_with fail
  refine PA'.out.mono ?_
  rintro e w1 ⟨rfl, nq, rfl⟩
  obtain ⟨W, hW⟩ : ∃ W, w.drewN nq = W := ⟨_, rfl⟩
  have bW := Lib.hid (show Below w.heap.size w W by rw [← hW]; exact below_drewN' (Below.refl _ _) _)
  rw [hW]
  clear hW
  go_wp2_with fail
  go_loopw [13, 14] (fun tv av wr => ∃ a : Nat, a ≤ M ∧ av = .int .i64 a ∧ Hid (wr.ownsRow W.heap.size 2 1 tv (a * wd) ((cutP cs n lo wd a).map (Value.int .i64))) ∧ Hid (Below W.heap.size W wr)) (fun _ av _ => M - (intOf av).toNat)
  case atStart => exact ⟨0, Nat.zero_le _, rfl, Lib.hid (by rw [Nat.zero_mul]; exact World.ownsRow_nil _ _ _ _), Lib.hid (Below.refl _ _)⟩
  case round =>
    obtain ⟨a, ha, rfl, hrow, hbr⟩ := hrel
    by_cases hlt : a < M
    · have haw : a * wd + wd ≤ M * wd := mul_room (n := wd) hlt
      have hMw : M * wd ≤ 1000 := by have := Nat.mul_le_mul_left M (show wd ≤ n by omega); have := HL.out; omega
      have han : a * n + n ≤ dl := by rw [HL.out]; exact mul_room (n := n) hlt
      have HAW := Lib.hid haw
      have HAN := Lib.hid han
      clear haw han
      go_wp2_with fail
      go_loopw [13, 15] (fun tv kv wr2 => ∃ (e c q : Nat), q ≤ t ∧ kv = .int .i64 q ∧ Hid (q = f + e) ∧ Hid (c = e * p) ∧ Hid (wr2.ownsRow W.heap.size 2 1 tv (a * wd + c) ((midP cs n lo wd a c).map (Value.int .i64))) ∧ Hid (Below W.heap.size W wr2)) (fun _ kv _ => t - (intOf kv).toNat)
      case atStart => exact ⟨0, 0, f, by omega, rfl, Lib.hid rfl, Lib.hid (by rw [Nat.zero_mul]), Lib.hid (by rw [midP_zero]; exact hrow.out), hbr⟩
      case round =>
        obtain ⟨e, c, q, he, rfl, hqe, hce, hrow2, hbr2⟩ := hrel
        by_cases hlt2 : q < t
        · have hcp : c + p ≤ wd := by
            have h3 := mul_room (n := p) (show e < t - f by have := hqe.out; omega)
            rw [← HW.out, ← hce.out] at h3
            exact h3
          go_wp2_with fail
          go_loopw [13, 16] (fun tv bv wr3 => ∃ (b : Nat), b ≤ p ∧ bv = .int .i64 b ∧ Hid (wr3.ownsRow W.heap.size 2 1 tv (a * wd + (c + b)) ((midP cs n lo wd a (c + b)).map (Value.int .i64))) ∧ Hid (Below W.heap.size W wr3)) (fun _ bv _ => p - (intOf bv).toNat)
          case atStart => exact ⟨0, Nat.zero_le _, rfl, hrow2, hbr2⟩
          case round =>
            obtain ⟨b, hb, rfl, hrow3, hbr3⟩ := hrel
            by_cases hlt3 : b < p
            · have bw3 := bW.out.trans (hbr3.out.mono bW.out.size)
              obtain ⟨u1, hu1⟩ : ∃ u, a * x = u := ⟨_, rfl⟩
              obtain ⟨u3, hu3⟩ : ∃ u, (u1 + q) * p = u := ⟨_, rfl⟩
              have hu4 : u3 = a * n + lo + c := by
                rw [← hu3, ← hu1, hqe.out, HN.out, HO.out, hce.out, Nat.add_mul, Nat.add_mul, Nat.mul_assoc]
                omega
              have hidx : u3 + b < dl := by have := HAN.out; omega
              have hu16 : u1 ≤ 1000000 := by rw [← hu1]; exact Nat.mul_le_mul (show a ≤ 1000 by omega) hx6
              have r1 : IntKind.i64.wrap ((a : Int) * (x : Int)) = (u1 : Int) := by
                have e0 : ((a : Int) * (x : Int)) = (u1 : Int) := by rw [← hu1]; simp
                rw [e0]; exact IntWalk.i64_in _ (by omega)
              have r3 : IntKind.i64.wrap (((u1 : Int) + (q : Int)) * (p : Int)) = (u3 : Int) := by
                have e0 : (((u1 : Int) + (q : Int)) * (p : Int)) = (u3 : Int) := by rw [← hu3]; simp
                rw [e0]; exact IntWalk.i64_in _ (by omega)
              have cx3 : wr.cell? ⟨sb, so + k, none⟩ = some (.int .i64 x) := by
                rcases (HS.out _ bw3).2.2.2 with h5 | ⟨b5, off5, ha5, hc5⟩
                · omega
                · cases ha5; rw [hc5 k hk, HX.out]
              have cy : wr.cell? ⟨db, dof + (u3 + b), none⟩ = some (.int .i64 (cs.getD (u3 + b) 0)) := by
                rcases (HD.out _ bw3).2.2.2 with h5 | ⟨b5, off5, ha5, hc5⟩
                · omega
                · cases ha5; exact hc5 (u3 + b) hidx
              have hst := midP_snoc (cs := cs) (n := n) (lo := lo) (wd := wd) (a := a) (c := c + b) (by rw [hdl.out]; omega)
              rw [show a * n + lo + (c + b) = u3 + b by omega] at hst
              obtain ⟨y, hy⟩ : ∃ y, cs.getD (u3 + b) 0 = y := ⟨_, rfl⟩
              rw [hy] at cy hst
              have HST := Lib.hid hst
              obtain ⟨L0, hL0⟩ : ∃ L, (midP cs n lo wd a (c + b)).map (Value.int .i64) = L := ⟨_, rfl⟩
              rw [hL0] at hrow3
              have HL0 := Lib.hid hL0
              have hmw : a * wd + (c + b) ≤ 1000 := by have := HAW.out; omega
              have SN := snoc_of y hrow3.out hbr3.out hmw
              obtain ⟨s1, s2, s3, s4, s5, s6⟩ := SN
              clear hst hy hL0 hu1 hu3 bw3 hu4
              go_wp2_with (at_builtin; refine wpList_append_own _ rfl _ _ 52 rfl W.heap.size 2 i0 (.int .i64 0) 1 8 Try.underlying52 hi hz0 hz1 hz2 rfl (by decide) _ (a * wd + (c + b)) _ rfl s1 ⟨_, 0, none⟩ 1 1 [.int .i64 y] rfl rfl s2 s3 s4 s5 s6 ?_)
              intro v' w5 hown hgrow hnil
              have hb5 := Lib.hid (snoc_below hrow3.out hbr3.out hgrow)
              rw [← HL0.out, ← snoc_int, ← HST.out] at hown
              have hown' := Lib.hid (show w5.ownsRow W.heap.size 2 1 v' (a * wd + (c + (b + 1))) ((midP cs n lo wd a (c + (b + 1))).map (Value.int .i64)) from hown)
              clear hown hgrow hnil s1 s2 s3 s4 s5 s6 cx3 cy r1 r3
              go_wp2_with fail
              go_roundw
              case rel => exact ⟨b + 1, by omega, by go_num, hown', hb5⟩
              case measure => (simp [intOf]; try omega)
            · obtain rfl : b = p := by omega
              have hce2 := Lib.hid (show c + b = (e + 1) * b by rw [hce.out, Nat.succ_mul])
              go_wp2_with fail
              go_roundw
              case rel => exact ⟨e + 1, c + b, q + 1, by omega, by go_num, Lib.hid (by rw [hqe.out, Nat.add_assoc]), hce2, hrow3, hbr3⟩
              case measure => (simp [intOf]; try omega)
        · have hcw : c = wd := by rw [hce.out, HW.out]; have := hqe.out; congr 1; omega
          subst hcw
          have hq4 := hrow2.out
          rw [midP_full, ← Nat.succ_mul] at hq4
          have hrow4 := Lib.hid hq4
          clear hq4
          go_wp2_with fail
          go_roundw
          case rel => exact ⟨a + 1, by omega, by go_num, hrow4, hbr2⟩
          case measure => (simp [intOf]; try omega)
    · obtain rfl : a = M := by omega
      have hq := Joins.ownsRow_le hrow.out bW.out.size
      have hb := Lib.hid (bW.out.trans (hbr.out.mono bW.out.size))
      have hq' := Lib.hid hq
      rcases Joins.ownsRow_forms hrow.out with ⟨e1, e2⟩ | ⟨g, c, e1⟩
      · have := Nat.mul_pos (show 0 < a by omega) (show 0 < wd by omega)
        omega
      · subst e1
        clear hrow hq
        go_wp2_with fail
        go_ret
        exact ⟨_, _, rfl, hq'.out, hb.out⟩
end Go.Proofs.Ytjphdkbhkkpeoaa
