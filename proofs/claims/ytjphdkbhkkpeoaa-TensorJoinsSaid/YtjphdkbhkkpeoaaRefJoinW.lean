/-
  Contract of the reference of layer 4: Join.
-/
import Derived.Test.YtjphdkbhkkpeoaaTJoinOk
namespace Go.Proofs.Ytjphdkbhkkpeoaa
open Go.RowKit
set_option linter.unusedVariables false
set_option linter.unusedSimpArgs false

theorem snoc_of2 {w0 wr : World} {L0 : List Value} {t : Value} {len : Nat} (x : Int) (h : wr.ownsRow w0.heap.size 2 1 t len L0) (hb : Below w0.heap.size w0 wr) (hl : len ≤ 2000) : Snoc w0 wr x L0 t len :=
  ⟨h.alloc _, box_cell wr x _, (by intro u hu; simp at hu; subst hu; rfl), by unfold maxLen; omega, by omega, by have := hb.size; simp; omega⟩

/-- The list under way. -/
def midJ1 (cs ds : List Int) (n m a e : Nat) : List Int := joinP cs ds n m a ++ (cs.drop (a * n)).take e
def midJ2 (cs ds : List Int) (n m a e : Nat) : List Int := midJ1 cs ds n m a n ++ (ds.drop (a * m)).take e
theorem midJ1_zero (cs ds : List Int) (n m a : Nat) : midJ1 cs ds n m a 0 = joinP cs ds n m a := by simp [midJ1]
theorem midJ2_zero (cs ds : List Int) (n m a : Nat) : midJ2 cs ds n m a 0 = midJ1 cs ds n m a n := by simp [midJ2]
theorem midJ2_full (cs ds : List Int) (n m a : Nat) : midJ2 cs ds n m a m = joinP cs ds n m (a + 1) := by simp [midJ2, midJ1, joinP]
theorem midJ1_snoc {cs ds : List Int} {n m a e : Nat} (h : a * n + e < cs.length) : midJ1 cs ds n m a (e + 1) = midJ1 cs ds n m a e ++ [cs.getD (a * n + e) 0] := by
  unfold midJ1; rw [take_snoc _ _ h, List.append_assoc]
theorem midJ2_snoc {cs ds : List Int} {n m a e : Nat} (h : a * m + e < ds.length) : midJ2 cs ds n m a (e + 1) = midJ2 cs ds n m a e ++ [ds.getD (a * m + e) 0] := by
  unfold midJ2; rw [take_snoc _ _ h, List.append_assoc]

set_option maxRecDepth 100000 in
set_option maxHeartbeats 8000000 in
theorem refjoin_any (sa : Option Addr) (sl sc : Nat) (ss : List Int) (sa2 : Option Addr) (sl2 sc2 : Nat) (ss2 : List Int) (da : Option Addr) (dl dc : Nat) (cs : List Int) (da2 : Option Addr) (dl2 dc2 : Nat) (ds : List Int) (k x y p M n m : Nat) (w : World)
    (h : IntsAt w sa sl ss) (hcap : Capped sl sc) (h2 : IntsAt w sa2 sl2 ss2) (hd : IntsAt w da dl cs) (hl : dl ≤ 1000) (hd2 : IntsAt w da2 dl2 ds) (hl2 : dl2 ≤ 1000) (hr : rightS ss = true) (hk : k < sl) (hk2 : k < sl2)
    (hx : ss.getD k 0 = x) (hy : ss2.getD k 0 = y) (hp : prodI (ss.drop (k + 1)) = p) (hM : prodI (ss.take k) = M) (hL : dl = M * n) (hL2 : dl2 = M * m) (hn : n = x * p) (hm : m = y * p) (hM1 : 1 ≤ M) (hp1 : 1 ≤ p) (hx1 : 1 ≤ x) (hy1 : 1 ≤ y) :
    Calls Try.prog 29 #[.slice sa sl sc, .slice sa2 sl2 sc2, .slice da dl dc, .slice da2 dl2 dc2, .int .i64 k] w
      fun e w' => ∃ A cap, e = .returned (.slice A (M * (n + m)) cap) ∧ w'.ownsRow w.heap.size 2 1 (.slice A (M * (n + m)) cap) (M * (n + m)) ((joinP cs ds n m M).map (Value.int .i64)) ∧ Below w.heap.size w w' := by
  have hn1 : 1 ≤ n := by rw [hn]; exact Nat.mul_pos hx1 hp1
  have hm1 : 1 ≤ m := by rw [hm]; exact Nat.mul_pos hy1 hp1
  have hn6 : n ≤ 1000 := by have := Nat.mul_le_mul_right n hM1; omega
  have hm6 : m ≤ 1000 := by have := Nat.mul_le_mul_right m hM1; omega
  have hM6 : M ≤ 1000 := by have := Nat.le_mul_of_pos_right M hn1; omega
  have hx6 : x ≤ 1000 := by have := Nat.le_mul_of_pos_right x hp1; omega
  have hy6 : y ≤ 1000 := by have := Nat.le_mul_of_pos_right y hp1; omega
  have PA := parts_any sa sl sc ss k w h hk hcap.1 hcap.2 hr
  rw [hM, hp] at PA
  have PA' := Lib.hid PA
  have HS := Lib.hid (fun w1 (hb : Below w.heap.size w w1) => h.kept hb)
  have HS2 := Lib.hid (fun w1 (hb : Below w.heap.size w w1) => h2.kept hb)
  have HD := Lib.hid (fun w1 (hb : Below w.heap.size w w1) => hd.kept hb)
  have HD2 := Lib.hid (fun w1 (hb : Below w.heap.size w w1) => hd2.kept hb)
  have hdl := Lib.hid hd.1
  have hdl2 := Lib.hid hd2.1
  have HX := Lib.hid hx
  have HX2 := Lib.hid hy
  have HL := Lib.hid hL
  have HL2 := Lib.hid hL2
  have HN := Lib.hid hn
  have HM2 := Lib.hid hm
  obtain ⟨i0, hi, hz0, hz1, hz2⟩ := info_parts i64Info
  have hdp : 1 ≤ dl ∧ 1 ≤ dl2 := ⟨by rw [hL]; exact Nat.mul_pos hM1 hn1, by rw [hL2]; exact Nat.mul_pos hM1 hm1⟩
  obtain ⟨sb, so, rfl⟩ : ∃ b off, sa = some ⟨b, off, none⟩ := by
    rcases h.2.2.2 with h5 | ⟨b, off, ha, _⟩
    · omega
    · exact ⟨b, off, ha⟩
  obtain ⟨sb2, so2, rfl⟩ : ∃ b off, sa2 = some ⟨b, off, none⟩ := by
    rcases h2.2.2.2 with h5 | ⟨b, off, ha, _⟩
    · omega
    · exact ⟨b, off, ha⟩
  obtain ⟨db, dof, rfl⟩ : ∃ b off, da = some ⟨b, off, none⟩ := by
    rcases hd.2.2.2 with h5 | ⟨b, off, ha, _⟩
    · omega
    · exact ⟨b, off, ha⟩
  obtain ⟨db2, dof2, rfl⟩ : ∃ b off, da2 = some ⟨b, off, none⟩ := by
    rcases hd2.2.2.2 with h5 | ⟨b, off, ha, _⟩
    · omega
    · exact ⟨b, off, ha⟩
  have hk' : (k : Int) < (sl : Int) := by omega
  have hk2' : (k : Int) < (sl2 : Int) := by omega
  clear PA h h2 hd hd2 hx hy hL hL2 hn hm hp hM hr hdp
  go_enter Try.func29, Try.ntmps29
  go_wp2_with fail
  refine PA'.out.mono ?_
  rintro e w1 ⟨rfl, nq, rfl⟩
  obtain ⟨W, hW⟩ : ∃ W, w.drewN nq = W := ⟨_, rfl⟩
  have bW := Lib.hid (show Below w.heap.size w W by rw [← hW]; exact below_drewN' (Below.refl _ _) _)
  rw [hW]
  clear hW
  go_wp2_with fail
  go_loopw [13, 14] (fun tv av wr => ∃ a : Nat, a ≤ M ∧ av = .int .i64 a ∧ Hid (wr.ownsRow W.heap.size 2 1 tv (a * (n + m)) ((joinP cs ds n m a).map (Value.int .i64))) ∧ Hid (Below W.heap.size W wr)) (fun _ av _ => M - (intOf av).toNat)
  case atStart => exact ⟨0, Nat.zero_le _, rfl, Lib.hid (by rw [Nat.zero_mul]; exact World.ownsRow_nil _ _ _ _), Lib.hid (Below.refl _ _)⟩
  case round =>
    obtain ⟨a, ha, rfl, hrow, hbr⟩ := hrel
    by_cases hlt : a < M
    · have haw : a * (n + m) + (n + m) ≤ 2000 := by
        have h3 := mul_room (n := n + m) hlt
        have h4 : M * (n + m) = M * n + M * m := Nat.mul_add _ _ _
        have := HL.out
        have := HL2.out
        omega
      have han : a * n + n ≤ dl := by rw [HL.out]; exact mul_room (n := n) hlt
      have ham : a * m + m ≤ dl2 := by rw [HL2.out]; exact mul_room (n := m) hlt
      have HAW := Lib.hid haw
      have HAN := Lib.hid han
      have HAM := Lib.hid ham
      clear haw han ham
      go_wp2_with fail
      go_loopw [13, 15] (fun tv ev wr2 => ∃ e : Nat, e ≤ n ∧ ev = .int .i64 e ∧ Hid (wr2.ownsRow W.heap.size 2 1 tv (a * (n + m) + e) ((midJ1 cs ds n m a e).map (Value.int .i64))) ∧ Hid (Below W.heap.size W wr2)) (fun _ ev _ => n - (intOf ev).toNat)
      case atStart => exact ⟨0, Nat.zero_le _, rfl, Lib.hid (by rw [midJ1_zero]; exact hrow.out), hbr⟩
      case round =>
        obtain ⟨e, he, rfl, hrow2, hbr2⟩ := hrel
        have bw := bW.out.trans (hbr2.out.mono bW.out.size)
        have cx : wr.cell? ⟨sb, so + k, none⟩ = some (.int .i64 x) := by
          rcases (HS.out wr bw).2.2.2 with h5 | ⟨b5, off5, ha5, hc5⟩
          · omega
          · cases ha5; rw [hc5 k hk, HX.out]
        have r0 : IntKind.i64.wrap ((x : Int) * (p : Int)) = (n : Int) := by
          have e0 : ((x : Int) * (p : Int)) = (n : Int) := by rw [HN.out]; simp
          rw [e0]; exact IntWalk.i64_in _ (by omega)
        by_cases hlt2 : e < n
        · have hidx : a * n + e < dl := by have := HAN.out; omega
          obtain ⟨u1, hu1⟩ : ∃ u, a * x = u := ⟨_, rfl⟩
          obtain ⟨u3, hu3⟩ : ∃ u, a * n = u := ⟨_, rfl⟩
          have hu16 : u1 ≤ 1000000 := by rw [← hu1]; exact Nat.mul_le_mul (show a ≤ 1000 by omega) hx6
          have r1 : IntKind.i64.wrap ((a : Int) * (x : Int)) = (u1 : Int) := by
            have e0 : ((a : Int) * (x : Int)) = (u1 : Int) := by rw [← hu1]; simp
            rw [e0]; exact IntWalk.i64_in _ (by omega)
          have r3 : IntKind.i64.wrap ((u1 : Int) * (p : Int)) = (u3 : Int) := by
            have e0 : ((u1 : Int) * (p : Int)) = (u3 : Int) := by rw [← hu3, ← hu1, HN.out, ← Nat.mul_assoc]; simp
            rw [e0]; exact IntWalk.i64_in _ (by omega)
          rw [hu3] at hidx
          have cy : wr.cell? ⟨db, dof + (u3 + e), none⟩ = some (.int .i64 (cs.getD (u3 + e) 0)) := by
            rcases (HD.out wr bw).2.2.2 with h5 | ⟨b5, off5, ha5, hc5⟩
            · omega
            · cases ha5; exact hc5 (u3 + e) hidx
          have hst := midJ1_snoc (cs := cs) (ds := ds) (n := n) (m := m) (a := a) (e := e) (by rw [hu3, hdl.out]; exact hidx)
          rw [hu3] at hst
          obtain ⟨y0, hy⟩ : ∃ y0, cs.getD (u3 + e) 0 = y0 := ⟨_, rfl⟩
          rw [hy] at cy hst
          have HST := Lib.hid hst
          obtain ⟨L0, hL0⟩ : ∃ L, (midJ1 cs ds n m a e).map (Value.int .i64) = L := ⟨_, rfl⟩
          rw [hL0] at hrow2
          have HL0 := Lib.hid hL0
          have hmw : a * (n + m) + e ≤ 2000 := by have := HAW.out; omega
          obtain ⟨s1, s2, s3, s4, s5, s6⟩ := snoc_of2 y0 hrow2.out hbr2.out hmw
          clear hst hy hL0 hu1 hu3 bw hu16
          go_wp2_with (at_builtin; refine wpList_append_own _ rfl _ _ 52 rfl W.heap.size 2 i0 (.int .i64 0) 1 8 Try.underlying52 hi hz0 hz1 hz2 rfl (by decide) _ (a * (n + m) + e) _ rfl s1 ⟨_, 0, none⟩ 1 1 [.int .i64 y0] rfl rfl s2 s3 s4 s5 s6 ?_)
          intro v' w5 hown hgrow hnil
          have hb5 := Lib.hid (snoc_below hrow2.out hbr2.out hgrow)
          rw [← HL0.out, ← snoc_int, ← HST.out] at hown
          have hown' := Lib.hid (show w5.ownsRow W.heap.size 2 1 v' (a * (n + m) + (e + 1)) ((midJ1 cs ds n m a (e + 1)).map (Value.int .i64)) from hown)
          clear hown hgrow hnil s1 s2 s3 s4 s5 s6 cx cy r0 r1 r3
          go_wp2_with fail
          go_roundw
          case rel => exact ⟨e + 1, by omega, by go_num, hown', hb5⟩
          case measure => (simp [intOf]; try omega)
        · have hen : e = n := by omega
          rw [hen] at hrow2
          have d0 : decide ((e : Int) < (n : Int)) = false := decide_eq_false (by omega)
          have d1 : decide (e < n) = false := decide_eq_false (by omega)
          clear hen
          go_wp2_with fail
          clear cx r0 bw hlt2 d0 d1 he
          go_loopw [13, 16] (fun tv ev wr2 => ∃ e : Nat, e ≤ m ∧ ev = .int .i64 e ∧ Hid (wr2.ownsRow W.heap.size 2 1 tv (a * (n + m) + n + e) ((midJ2 cs ds n m a e).map (Value.int .i64))) ∧ Hid (Below W.heap.size W wr2)) (fun _ ev _ => m - (intOf ev).toNat)
          case atStart => exact ⟨0, Nat.zero_le _, rfl, Lib.hid (by rw [midJ2_zero]; exact hrow2.out), hbr2⟩
          case round =>
            obtain ⟨e, he, rfl, hrow3, hbr3⟩ := hrel
            have bw := bW.out.trans (hbr3.out.mono bW.out.size)
            have cx : wr.cell? ⟨sb2, so2 + k, none⟩ = some (.int .i64 y) := by
              rcases (HS2.out wr bw).2.2.2 with h5 | ⟨b5, off5, ha5, hc5⟩
              · omega
              · cases ha5; rw [hc5 k hk2, HX2.out]
            have r0 : IntKind.i64.wrap ((y : Int) * (p : Int)) = (m : Int) := by
              have e0 : ((y : Int) * (p : Int)) = (m : Int) := by rw [HM2.out]; simp
              rw [e0]; exact IntWalk.i64_in _ (by omega)
            by_cases hlt3 : e < m
            · have hidx : a * m + e < dl2 := by have := HAM.out; omega
              obtain ⟨u1, hu1⟩ : ∃ u, a * y = u := ⟨_, rfl⟩
              obtain ⟨u3, hu3⟩ : ∃ u, a * m = u := ⟨_, rfl⟩
              have hu16 : u1 ≤ 1000000 := by rw [← hu1]; exact Nat.mul_le_mul (show a ≤ 1000 by omega) hy6
              have r1 : IntKind.i64.wrap ((a : Int) * (y : Int)) = (u1 : Int) := by
                have e0 : ((a : Int) * (y : Int)) = (u1 : Int) := by rw [← hu1]; simp
                rw [e0]; exact IntWalk.i64_in _ (by omega)
              have r3 : IntKind.i64.wrap ((u1 : Int) * (p : Int)) = (u3 : Int) := by
                have e0 : ((u1 : Int) * (p : Int)) = (u3 : Int) := by rw [← hu3, ← hu1, HM2.out, ← Nat.mul_assoc]; simp
                rw [e0]; exact IntWalk.i64_in _ (by omega)
              rw [hu3] at hidx
              have cy : wr.cell? ⟨db2, dof2 + (u3 + e), none⟩ = some (.int .i64 (ds.getD (u3 + e) 0)) := by
                rcases (HD2.out wr bw).2.2.2 with h5 | ⟨b5, off5, ha5, hc5⟩
                · omega
                · cases ha5; exact hc5 (u3 + e) hidx
              have hst := midJ2_snoc (cs := cs) (ds := ds) (n := n) (m := m) (a := a) (e := e) (by rw [hu3, hdl2.out]; exact hidx)
              rw [hu3] at hst
              obtain ⟨y0, hy⟩ : ∃ y0, ds.getD (u3 + e) 0 = y0 := ⟨_, rfl⟩
              rw [hy] at cy hst
              have HST := Lib.hid hst
              obtain ⟨L0, hL0⟩ : ∃ L, (midJ2 cs ds n m a e).map (Value.int .i64) = L := ⟨_, rfl⟩
              rw [hL0] at hrow3
              have HL0 := Lib.hid hL0
              have hmw : a * (n + m) + n + e ≤ 2000 := by have := HAW.out; omega
              obtain ⟨s1, s2, s3, s4, s5, s6⟩ := snoc_of2 y0 hrow3.out hbr3.out hmw
              clear hst hy hL0 hu1 hu3 bw hu16
              go_wp2_with (at_builtin; refine wpList_append_own _ rfl _ _ 52 rfl W.heap.size 2 i0 (.int .i64 0) 1 8 Try.underlying52 hi hz0 hz1 hz2 rfl (by decide) _ (a * (n + m) + n + e) _ rfl s1 ⟨_, 0, none⟩ 1 1 [.int .i64 y0] rfl rfl s2 s3 s4 s5 s6 ?_)
              intro v' w5 hown hgrow hnil
              have hb5 := Lib.hid (snoc_below hrow3.out hbr3.out hgrow)
              rw [← HL0.out, ← snoc_int, ← HST.out] at hown
              have hown' := Lib.hid (show w5.ownsRow W.heap.size 2 1 v' (a * (n + m) + n + (e + 1)) ((midJ2 cs ds n m a (e + 1)).map (Value.int .i64)) from hown)
              clear hown hgrow hnil s1 s2 s3 s4 s5 s6 cx cy r0 r1 r3
              go_wp2_with fail
              go_roundw
              case rel => exact ⟨e + 1, by omega, by go_num, hown', hb5⟩
              case measure => (simp [intOf]; try omega)
            · obtain rfl : e = m := by omega
              have hq4 := hrow3.out
              rw [midJ2_full, show a * (n + e) + n + e = (a + 1) * (n + e) by rw [Nat.succ_mul, Nat.add_assoc]] at hq4
              have hrow4 := Lib.hid hq4
              clear hq4 bw
              go_wp2_with fail
              go_roundw
              case rel => exact ⟨a + 1, by omega, by go_num, hrow4, hbr3⟩
              case measure => (simp [intOf]; try omega)
    · obtain rfl : a = M := by omega
      have hq := Joins.ownsRow_le hrow.out bW.out.size
      have hb := Lib.hid (bW.out.trans (hbr.out.mono bW.out.size))
      have hq' := Lib.hid hq
      rcases Joins.ownsRow_forms hrow.out with ⟨e1, e2⟩ | ⟨g, c, e1⟩
      · have := Nat.mul_pos (show 0 < a by omega) (show 0 < n + m by omega)
        omega
      · subst e1
        clear hrow hq
        go_wp2_with fail
        go_ret
        exact ⟨_, _, rfl, hq'.out, hb.out⟩
end Go.Proofs.Ytjphdkbhkkpeoaa
