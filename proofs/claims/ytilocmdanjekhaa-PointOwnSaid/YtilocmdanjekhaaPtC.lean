/-
  Contracts over lists of tensors: fault.
-/
import Derived.Test.YtilocmdanjekhaaPtB
import Derived.Test.YtilocmdanjekhaaSkip
namespace Go.Proofs.Ytilocmdanjekhaa
open Go.RowKit
set_option linter.unusedVariables false
set_option linter.unusedSimpArgs false

/-- A tensor is valid and has this shape. -/
def okT (s0 : List Int) (t : TV) : Bool := rightT t.ss t.cl && sameL t.ss s0
def shape0 (ts : List TV) : List Int := match ts with
  | [] => []
  | t :: _ => t.ss
theorem shape0_at {ts : List TV} {t : TV} (h : ts[0]? = some t) : shape0 ts = t.ss := by
  cases ts with
  | nil => simp at h
  | cons x r => simp at h; subst h; rfl
/-- All are valid and have one shape. -/
def okTs (ts : List TV) : Bool := ts.all (okT (shape0 ts))
def faultE (kind : Int) (ts : List TV) : Int := if insN kind = 0 then 21 else if (ts.length : Int) = insN kind then (if okTs ts = true then 0 else 20) else 20
theorem faultE_op {kind : Int} {ts : List TV} (h : insN kind = 0) : faultE kind ts = 21 := by unfold faultE; rw [if_pos h]
theorem faultE_len {kind : Int} {ts : List TV} (h : ¬ insN kind = 0) (h' : ¬ (ts.length : Int) = insN kind) : faultE kind ts = 20 := by unfold faultE; rw [if_neg h, if_neg h']
theorem faultE_ok {kind : Int} {ts : List TV} (h : ¬ insN kind = 0) (h' : (ts.length : Int) = insN kind) (h2 : okTs ts = true) : faultE kind ts = 0 := by unfold faultE; rw [if_neg h, if_pos h', if_pos h2]
theorem faultE_no {kind : Int} {ts : List TV} (h : ¬ insN kind = 0) (h' : (ts.length : Int) = insN kind) (h2 : okTs ts = false) : faultE kind ts = 20 := by unfold faultE; rw [if_neg h, if_pos h', h2, if_neg (by decide)]
theorem okTs_bad {ts : List TV} {k : Nat} {t : TV} (h : ts[k]? = some t) (h2 : okT (shape0 ts) t = false) : okTs ts = false := by
  unfold okTs
  rw [Bool.eq_false_iff]
  intro h3
  have := List.all_eq_true.1 h3 t (List.mem_of_getElem? h)
  rw [this] at h2
  cases h2
def okN (ts : List TV) (k : Nat) : Prop := (ts.take k).all (okT (shape0 ts)) = true
theorem okN_zero (ts : List TV) : okN ts 0 := by unfold okN; simp
theorem okN_step {ts : List TV} {k : Nat} {t : TV} (h : okN ts k) (ht : ts[k]? = some t) (h2 : okT (shape0 ts) t = true) : okN ts (k + 1) := by
  unfold okN at *; rw [List.take_add_one, ht]; simp [h, h2]
theorem okN_full {ts : List TV} {k : Nat} (h : okN ts k) (hk : ts.length ≤ k) : okTs ts = true := by
  unfold okN at h; rw [List.take_of_length_le hk] at h; exact h

set_option maxHeartbeats 2000000 in
theorem fault_any (kind : Int) (a : Option Addr) (len cap : Nat) (ts : List TV) (w : World) (h : GsAt w a len ts) :
    Calls Try.prog 22 #[.int .i64 kind, .slice a len cap] w fun e w' => e = .returned (.int .i64 (faultE kind ts)) ∧ Below w.heap.size w w' := by
  have hl := h.2.1
  have hts := h.1
  have C := ins_any kind w
  obtain ⟨n, hn⟩ : ∃ n, insN kind = n := ⟨_, rfl⟩
  have E1 := Lib.hid (@faultE_op kind ts)
  have E2 := Lib.hid (@faultE_len kind ts)
  have E3 := Lib.hid (@faultE_ok kind ts)
  have E4 := Lib.hid (@faultE_no kind ts)
  rw [hn] at C E1 E2 E3 E4
  rw [hts] at E2 E3 E4
  have C1 := Lib.hid C
  have hts' := Lib.hid hts
  clear C hn hts
  by_cases g : n = 0
  · subst g
    go_enter Try.func22, Try.ntmps22
    go_wp2_with fail
    refine C1.out.mono ?_
    rintro e w' ⟨rfl, rfl⟩
    go_wp2_with fail
    go_ret
    exact ⟨ret_int (by have := E1.out; simp at this; exact this.symm), Below.refl _ _⟩
  have g' := Lib.hid g
  have g0 : (n == 0) = false := beq_eq_false_iff_ne.2 g
  clear g
  by_cases d : (len : Int) = n
  · have H := Lib.hid (fun w1 (hb : Below w.heap.size w w1) k (hk : k < len) => (h.kept hb).at hk)
    clear h
    have d' := Lib.hid d
    subst d
    go_enter Try.func22, Try.ntmps22
    go_wp2_with fail
    refine C1.out.mono ?_
    rintro e w' ⟨rfl, rfl⟩
    go_wp2_with fail
    go_loopw [18] (fun i wr => ∃ k : Nat, k ≤ len ∧ i = .int .i64 k ∧ Hid (okN ts k) ∧ Hid (Below w.heap.size w wr)) (fun i _ => len - (intOf i).toNat)
    case atStart => exact ⟨0, Nat.zero_le _, rfl, Lib.hid (okN_zero ts), Lib.hid (Below.refl _ _)⟩
    case round =>
      obtain ⟨k, hk, rfl, hok, hbr⟩ := hrel
      by_cases hlt : k < len
      · obtain ⟨t, b, off, ht, rfl, c0, c1, hAt⟩ := H.out wr hbr.out k hlt
        obtain ⟨t0, b', off', ht0, e', d0, d1, hAt0⟩ := H.out wr hbr.out 0 (by omega)
        simp only [Option.some.injEq, Addr.mk.injEq, and_true] at e'
        obtain ⟨rfl, rfl⟩ := e'
        simp only [Nat.zero_mul, Nat.add_zero] at d0
        obtain ⟨wB, hwB, J, z, n1⟩ := grid_box wr (.slice t.sa t.sl t.sc) (.slice t.ca t.cl t.cc)
        have hb2 := Lib.hid (hbr.out.trans (z.out.mono hbr.out.size))
        have sh := Lib.hid (shape0_at ht0)
        have R1 := Lib.hid (fun w1 (hb : Below wB.heap.size wB w1) => tright_any t.sa t.sl t.sc t.ss t.ca t.cl t.cc w1 ((hAt.1.kept z.out).kept hb) (by have := hAt.2.2.2; omega))
        have R2 := Lib.hid (fun w1 (hb : Below wB.heap.size wB w1) => sliceEqual_any t.sa t.sl t.sc t.ss t0.sa t0.sl t0.sc t0.ss w1 ((hAt.1.kept z.out).kept hb) ((hAt0.1.kept z.out).kept hb))
        have F1 := Lib.hid (fun w1 (hb : Below wB.heap.size wB w1) => (J.out.kept hb).see)
        have F2 := Lib.hid (fun w1 (hb : Below wB.heap.size wB w1) => cell_later hb (cell_later z.out d0))
        have SK := Lib.hid (fun w' (hb : Below wB.heap.size wB w') => (⟨(F1.out w' hb).1, (F1.out w' hb).2.1, F2.out w' hb⟩ : w'.cell? ⟨wr.heap.size, 0, none⟩ = some (.slice t.sa t.sl t.sc) ∧ w'.cell? ⟨wr.heap.size, 1, none⟩ = some (.slice t.ca t.cl t.cc) ∧ w'.cell? ⟨b, off, none⟩ = some (.slice t0.sa t0.sl t0.sc)))
        have t1 : Below wB.heap.size wB wB.drew := (Below.refl _ _).drew
        have hp0 : ¬ len = 0 := by omega
        have u1 := SK.out _ t1
        have t1' := Lib.hid t1
        clear t1 hAt hAt0 d1
        cases r : rightT t.ss t.cl
        · have E : Hid (okTs ts = false) := Lib.hid (okTs_bad ht (by unfold okT; rw [r]; rfl))
          rw [r] at R1
          clear r
          go_upto_region 9 with (fail)
          rw [hwB.out]
          refine wp_region_held_drew (S := fun w' => w'.cell? ⟨wr.heap.size, 0, none⟩ = some (.slice t.sa t.sl t.sc) ∧ w'.cell? ⟨wr.heap.size, 1, none⟩ = some (.slice t.ca t.cl t.cc) ∧ w'.cell? ⟨b, off, none⟩ = some (.slice t0.sa t0.sl t0.sc)) (by kernel_rfl) u1 (fun hHeld => ?_)
          refine held_take 0 (.agg #[.slice t.sa t.sl t.sc, .slice t.ca t.cl t.cc]) rfl (by kernel_rfl) (by kernel_rfl) (by kernel_rfl) (fun _ _ _ h => h) (by rfl) (by intro w' hS; go_simp) (by assumption) ?_
          try simp only [Act.put, List.setIfInBounds_toArray, List.set_cons_zero, List.set_cons_succ]
          refine held_call 1 (by kernel_rfl) rfl (by rfl) (fun K hK => ?_)
          go_simp
          refine (R1.out _ t1'.out).mono ?_
          rintro e w2 ⟨rfl, hb⟩
          go_wp2_with fail
          refine hK.out _ _ (SK.out w2 (t1'.out.trans (hb.mono (Nat.le_refl _)))) (fun hHeld => ?_)
          try simp only [Act.put, List.setIfInBounds_toArray, List.set_cons_zero, List.set_cons_succ]
          refine held_take 2 (.bool true) rfl (by kernel_rfl) (by kernel_rfl) (by kernel_rfl) (fun _ _ _ h => h) (by rfl) (by intro w' hS; go_simp) (by assumption) ?_
          try simp only [Act.put, List.setIfInBounds_toArray, List.set_cons_zero, List.set_cons_succ]
          refine held_take 3 (.bool true) rfl (by kernel_rfl) (by kernel_rfl) (by kernel_rfl) (fun _ _ _ h => h) (by rfl) (by intro w' hS; go_simp) (by assumption) ?_
          try simp only [Act.put, List.setIfInBounds_toArray, List.set_cons_zero, List.set_cons_succ]
          refine held_skip 4 rfl (by kernel_rfl) (by kernel_rfl) (by kernel_rfl) (fun _ _ _ h => h) (by rfl) (by assumption) ?_
          try simp only [Act.put, List.setIfInBounds_toArray, List.set_cons_zero, List.set_cons_succ]
          refine held_skip 5 rfl (by kernel_rfl) (by kernel_rfl) (by kernel_rfl) (fun _ _ _ h => h) (by rfl) (by assumption) ?_
          try simp only [Act.put, List.setIfInBounds_toArray, List.set_cons_zero, List.set_cons_succ]
          refine held_skip 6 rfl (by kernel_rfl) (by kernel_rfl) (by kernel_rfl) (fun _ _ _ h => h) (by rfl) (by assumption) ?_
          try simp only [Act.put, List.setIfInBounds_toArray, List.set_cons_zero, List.set_cons_succ]
          refine held_skip 7 rfl (by kernel_rfl) (by kernel_rfl) (by kernel_rfl) (fun _ _ _ h => h) (by rfl) (by assumption) ?_
          try simp only [Act.put, List.setIfInBounds_toArray, List.set_cons_zero, List.set_cons_succ]
          refine held_skip 8 rfl (by kernel_rfl) (by kernel_rfl) (by kernel_rfl) (fun _ _ _ h => h) (by rfl) (by assumption) ?_
          try simp only [Act.put, List.setIfInBounds_toArray, List.set_cons_zero, List.set_cons_succ]
          refine held_skip 9 rfl (by kernel_rfl) (by kernel_rfl) (by kernel_rfl) (fun _ _ _ h => h) (by rfl) (by assumption) ?_
          try simp only [Act.put, List.setIfInBounds_toArray, List.set_cons_zero, List.set_cons_succ]
          refine held_left 10 (by kernel_rfl) rfl (by rfl) (by assumption) ?_
          try simp only [Act.put, List.setIfInBounds_toArray, List.set_cons_zero, List.set_cons_succ]
          refine held_skip 11 rfl (by kernel_rfl) (by kernel_rfl) (by kernel_rfl) (fun _ _ _ h => h) (by rfl) (by assumption) ?_
          try simp only [Act.put, List.setIfInBounds_toArray, List.set_cons_zero, List.set_cons_succ]
          refine held_take 12 (.bool true) rfl (by kernel_rfl) (by kernel_rfl) (by kernel_rfl) (fun _ _ _ h => h) (by rfl) (by intro w' hS; go_simp) (by assumption) ?_
          try simp only [Act.put, List.setIfInBounds_toArray, List.set_cons_zero, List.set_cons_succ]
          refine wpAnyH_done (by kernel_rfl) ?_ _
          go_wp2_with fail
          go_ret
          exact ⟨ret_int (by have := E4.out g'.out; simp at this; exact (this E.out).symm), hb2.out.trans ((t1'.out.trans (hb.mono (Nat.le_refl _))).mono hb2.out.size)⟩
        · obtain ⟨x, hx⟩ : ∃ x, sameL t.ss t0.ss = x := ⟨_, rfl⟩
          have ok2 := Lib.hid (show okT (shape0 ts) t = x by unfold okT; rw [r, sh.out, hx]; rfl)
          rw [r] at R1
          rw [hx] at R2
          clear r hx
          cases x
          · have E : Hid (okTs ts = false) := Lib.hid (okTs_bad ht ok2.out)
            go_upto_region 9 with (fail)
            rw [hwB.out]
            refine wp_region_held_drew (S := fun w' => w'.cell? ⟨wr.heap.size, 0, none⟩ = some (.slice t.sa t.sl t.sc) ∧ w'.cell? ⟨wr.heap.size, 1, none⟩ = some (.slice t.ca t.cl t.cc) ∧ w'.cell? ⟨b, off, none⟩ = some (.slice t0.sa t0.sl t0.sc)) (by kernel_rfl) u1 (fun hHeld => ?_)
            refine held_take 0 (.agg #[.slice t.sa t.sl t.sc, .slice t.ca t.cl t.cc]) rfl (by kernel_rfl) (by kernel_rfl) (by kernel_rfl) (fun _ _ _ h => h) (by rfl) (by intro w' hS; go_simp) (by assumption) ?_
            try simp only [Act.put, List.setIfInBounds_toArray, List.set_cons_zero, List.set_cons_succ]
            refine held_call 1 (by kernel_rfl) rfl (by rfl) (fun K hK => ?_)
            go_simp
            refine (R1.out _ t1'.out).mono ?_
            rintro e w2 ⟨rfl, hb⟩
            go_wp2_with fail
            refine hK.out _ _ (SK.out w2 (t1'.out.trans (hb.mono (Nat.le_refl _)))) (fun hHeld => ?_)
            try simp only [Act.put, List.setIfInBounds_toArray, List.set_cons_zero, List.set_cons_succ]
            refine held_take 2 (.bool false) rfl (by kernel_rfl) (by kernel_rfl) (by kernel_rfl) (fun _ _ _ h => h) (by rfl) (by intro w' hS; go_simp) (by assumption) ?_
            try simp only [Act.put, List.setIfInBounds_toArray, List.set_cons_zero, List.set_cons_succ]
            refine held_take 3 (.bool false) rfl (by kernel_rfl) (by kernel_rfl) (by kernel_rfl) (fun _ _ _ h => h) (by rfl) (by intro w' hS; go_simp) (by assumption) ?_
            try simp only [Act.put, List.setIfInBounds_toArray, List.set_cons_zero, List.set_cons_succ]
            refine held_take 4 (.pointer (some ⟨wr.heap.size, 0, none⟩)) rfl (by kernel_rfl) (by kernel_rfl) (by kernel_rfl) (fun _ _ _ h => h) (by rfl) (by intro w' hS; go_simp) (by assumption) ?_
            try simp only [Act.put, List.setIfInBounds_toArray, List.set_cons_zero, List.set_cons_succ]
            refine held_take 5 (.slice t.sa t.sl t.sc) rfl (by kernel_rfl) (by kernel_rfl) (by kernel_rfl) (fun _ _ _ h => h) (by rfl) (by intro w' hS; go_simp) (by assumption) ?_
            try simp only [Act.put, List.setIfInBounds_toArray, List.set_cons_zero, List.set_cons_succ]
            refine held_take 6 (.slice (some ⟨b, off, none⟩) len cap) rfl (by kernel_rfl) (by kernel_rfl) (by kernel_rfl) (fun _ _ _ h => h) (by rfl) (by intro w' hS; go_simp) (by assumption) ?_
            try simp only [Act.put, List.setIfInBounds_toArray, List.set_cons_zero, List.set_cons_succ]
            refine held_take 7 (.pointer (some ⟨b, off, none⟩)) rfl (by kernel_rfl) (by kernel_rfl) (by kernel_rfl) (fun _ _ _ h => h) (by rfl) (by intro w' hS; go_simp) (by assumption) ?_
            try simp only [Act.put, List.setIfInBounds_toArray, List.set_cons_zero, List.set_cons_succ]
            refine held_take 8 (.pointer (some ⟨b, off, none⟩)) rfl (by kernel_rfl) (by kernel_rfl) (by kernel_rfl) (fun _ _ _ h => h) (by rfl) (by intro w' hS; go_simp) (by assumption) ?_
            try simp only [Act.put, List.setIfInBounds_toArray, List.set_cons_zero, List.set_cons_succ]
            refine held_take 9 (.slice t0.sa t0.sl t0.sc) rfl (by kernel_rfl) (by kernel_rfl) (by kernel_rfl) (fun _ _ _ h => h) (by rfl) (by intro w' hS; go_simp) (by assumption) ?_
            try simp only [Act.put, List.setIfInBounds_toArray, List.set_cons_zero, List.set_cons_succ]
            refine held_call 10 (by kernel_rfl) rfl (by rfl) (fun K hK => ?_)
            go_simp
            refine (R2.out w2 (t1'.out.trans (hb.mono (Nat.le_refl _)))).mono ?_
            rintro e w3 ⟨rfl, m, rfl⟩
            go_wp2_with fail
            refine hK.out _ _ (SK.out _ (below_drewN' (t1'.out.trans (hb.mono (Nat.le_refl _))) m)) (fun hHeld => ?_)
            try simp only [Act.put, List.setIfInBounds_toArray, List.set_cons_zero, List.set_cons_succ]
            refine held_take 11 (.bool true) rfl (by kernel_rfl) (by kernel_rfl) (by kernel_rfl) (fun _ _ _ h => h) (by rfl) (by intro w' hS; go_simp) (by assumption) ?_
            try simp only [Act.put, List.setIfInBounds_toArray, List.set_cons_zero, List.set_cons_succ]
            refine held_take 12 (.bool true) rfl (by kernel_rfl) (by kernel_rfl) (by kernel_rfl) (fun _ _ _ h => h) (by rfl) (by intro w' hS; go_simp) (by assumption) ?_
            try simp only [Act.put, List.setIfInBounds_toArray, List.set_cons_zero, List.set_cons_succ]
            refine wpAnyH_done (by kernel_rfl) ?_ _
            go_wp2_with fail
            go_ret
            exact ⟨ret_int (by have := E4.out g'.out; simp at this; exact (this E.out).symm), hb2.out.trans ((below_drewN' (t1'.out.trans (hb.mono (Nat.le_refl _))) m).mono hb2.out.size)⟩
          · have ok3 := Lib.hid (okN_step hok.out ht ok2.out)
            go_upto_region 9 with (fail)
            rw [hwB.out]
            refine wp_region_held_drew (S := fun w' => w'.cell? ⟨wr.heap.size, 0, none⟩ = some (.slice t.sa t.sl t.sc) ∧ w'.cell? ⟨wr.heap.size, 1, none⟩ = some (.slice t.ca t.cl t.cc) ∧ w'.cell? ⟨b, off, none⟩ = some (.slice t0.sa t0.sl t0.sc)) (by kernel_rfl) u1 (fun hHeld => ?_)
            refine held_take 0 (.agg #[.slice t.sa t.sl t.sc, .slice t.ca t.cl t.cc]) rfl (by kernel_rfl) (by kernel_rfl) (by kernel_rfl) (fun _ _ _ h => h) (by rfl) (by intro w' hS; go_simp) (by assumption) ?_
            try simp only [Act.put, List.setIfInBounds_toArray, List.set_cons_zero, List.set_cons_succ]
            refine held_call 1 (by kernel_rfl) rfl (by rfl) (fun K hK => ?_)
            go_simp
            refine (R1.out _ t1'.out).mono ?_
            rintro e w2 ⟨rfl, hb⟩
            go_wp2_with fail
            refine hK.out _ _ (SK.out w2 (t1'.out.trans (hb.mono (Nat.le_refl _)))) (fun hHeld => ?_)
            try simp only [Act.put, List.setIfInBounds_toArray, List.set_cons_zero, List.set_cons_succ]
            refine held_take 2 (.bool false) rfl (by kernel_rfl) (by kernel_rfl) (by kernel_rfl) (fun _ _ _ h => h) (by rfl) (by intro w' hS; go_simp) (by assumption) ?_
            try simp only [Act.put, List.setIfInBounds_toArray, List.set_cons_zero, List.set_cons_succ]
            refine held_take 3 (.bool false) rfl (by kernel_rfl) (by kernel_rfl) (by kernel_rfl) (fun _ _ _ h => h) (by rfl) (by intro w' hS; go_simp) (by assumption) ?_
            try simp only [Act.put, List.setIfInBounds_toArray, List.set_cons_zero, List.set_cons_succ]
            refine held_take 4 (.pointer (some ⟨wr.heap.size, 0, none⟩)) rfl (by kernel_rfl) (by kernel_rfl) (by kernel_rfl) (fun _ _ _ h => h) (by rfl) (by intro w' hS; go_simp) (by assumption) ?_
            try simp only [Act.put, List.setIfInBounds_toArray, List.set_cons_zero, List.set_cons_succ]
            refine held_take 5 (.slice t.sa t.sl t.sc) rfl (by kernel_rfl) (by kernel_rfl) (by kernel_rfl) (fun _ _ _ h => h) (by rfl) (by intro w' hS; go_simp) (by assumption) ?_
            try simp only [Act.put, List.setIfInBounds_toArray, List.set_cons_zero, List.set_cons_succ]
            refine held_take 6 (.slice (some ⟨b, off, none⟩) len cap) rfl (by kernel_rfl) (by kernel_rfl) (by kernel_rfl) (fun _ _ _ h => h) (by rfl) (by intro w' hS; go_simp) (by assumption) ?_
            try simp only [Act.put, List.setIfInBounds_toArray, List.set_cons_zero, List.set_cons_succ]
            refine held_take 7 (.pointer (some ⟨b, off, none⟩)) rfl (by kernel_rfl) (by kernel_rfl) (by kernel_rfl) (fun _ _ _ h => h) (by rfl) (by intro w' hS; go_simp) (by assumption) ?_
            try simp only [Act.put, List.setIfInBounds_toArray, List.set_cons_zero, List.set_cons_succ]
            refine held_take 8 (.pointer (some ⟨b, off, none⟩)) rfl (by kernel_rfl) (by kernel_rfl) (by kernel_rfl) (fun _ _ _ h => h) (by rfl) (by intro w' hS; go_simp) (by assumption) ?_
            try simp only [Act.put, List.setIfInBounds_toArray, List.set_cons_zero, List.set_cons_succ]
            refine held_take 9 (.slice t0.sa t0.sl t0.sc) rfl (by kernel_rfl) (by kernel_rfl) (by kernel_rfl) (fun _ _ _ h => h) (by rfl) (by intro w' hS; go_simp) (by assumption) ?_
            try simp only [Act.put, List.setIfInBounds_toArray, List.set_cons_zero, List.set_cons_succ]
            refine held_call 10 (by kernel_rfl) rfl (by rfl) (fun K hK => ?_)
            go_simp
            refine (R2.out w2 (t1'.out.trans (hb.mono (Nat.le_refl _)))).mono ?_
            rintro e w3 ⟨rfl, m, rfl⟩
            go_wp2_with fail
            refine hK.out _ _ (SK.out _ (below_drewN' (t1'.out.trans (hb.mono (Nat.le_refl _))) m)) (fun hHeld => ?_)
            try simp only [Act.put, List.setIfInBounds_toArray, List.set_cons_zero, List.set_cons_succ]
            refine held_take 11 (.bool false) rfl (by kernel_rfl) (by kernel_rfl) (by kernel_rfl) (fun _ _ _ h => h) (by rfl) (by intro w' hS; go_simp) (by assumption) ?_
            try simp only [Act.put, List.setIfInBounds_toArray, List.set_cons_zero, List.set_cons_succ]
            refine held_take 12 (.bool false) rfl (by kernel_rfl) (by kernel_rfl) (by kernel_rfl) (fun _ _ _ h => h) (by rfl) (by intro w' hS; go_simp) (by assumption) ?_
            try simp only [Act.put, List.setIfInBounds_toArray, List.set_cons_zero, List.set_cons_succ]
            refine wpAnyH_done (by kernel_rfl) ?_ _
            have hb5 := Lib.hid (hb2.out.trans ((below_drewN' (t1'.out.trans (hb.mono (Nat.le_refl _))) m).mono hb2.out.size))
            go_wp2_with fail
            go_roundw
            case rel => exact ⟨k + 1, by omega, by go_num, ok3, hb5⟩
            case measure => (simp [intOf]; try omega)
      · obtain rfl : k = len := by omega
        go_wp2_with fail
        go_ret
        exact ⟨ret_int (by have := E3.out g'.out; simp at this; exact (this (okN_full hok.out (by rw [hts'.out]; omega))).symm), hbr.out⟩
  · clear h
    have E := Lib.hid (E2.out g'.out d)
    have d0 : ((len : Int) == n) = false := beq_eq_false_iff_ne.2 d
    clear d
    go_enter Try.func22, Try.ntmps22
    go_wp2_with fail
    refine C1.out.mono ?_
    rintro e w' ⟨rfl, rfl⟩
    go_wp2_with fail
    go_ret
    exact ⟨ret_int E.out.symm, Below.refl _ _⟩

set_option maxHeartbeats 2000000 in
theorem good_any (kind : Int) (a : Option Addr) (len cap : Nat) (ts : List TV) (w : World) (h : GsAt w a len ts) :
    Calls Try.prog 10 #[.int .i64 kind, .slice a len cap] w fun e w' => e = .returned (.int .i64 (faultE kind ts)) ∧ Below w.heap.size w w' := by
  have hl := h.2.1
  have hts := h.1
  have C := refins_any kind w
  obtain ⟨n, hn⟩ : ∃ n, insN kind = n := ⟨_, rfl⟩
  have E1 := Lib.hid (@faultE_op kind ts)
  have E2 := Lib.hid (@faultE_len kind ts)
  have E3 := Lib.hid (@faultE_ok kind ts)
  have E4 := Lib.hid (@faultE_no kind ts)
  rw [hn] at C E1 E2 E3 E4
  rw [hts] at E2 E3 E4
  have C1 := Lib.hid C
  have hts' := Lib.hid hts
  clear C hn hts
  by_cases g : n = 0
  · subst g
    go_enter Try.func10, Try.ntmps10
    go_wp2_with fail
    refine C1.out.mono ?_
    rintro e w' ⟨rfl, rfl⟩
    go_wp2_with fail
    go_ret
    exact ⟨ret_int (by have := E1.out; simp at this; exact this.symm), Below.refl _ _⟩
  have g' := Lib.hid g
  have g0 : (n == 0) = false := beq_eq_false_iff_ne.2 g
  clear g
  by_cases d : (len : Int) = n
  · have H := Lib.hid (fun w1 (hb : Below w.heap.size w w1) k (hk : k < len) => (h.kept hb).at hk)
    clear h
    have d' := Lib.hid d
    subst d
    go_enter Try.func10, Try.ntmps10
    go_wp2_with fail
    refine C1.out.mono ?_
    rintro e w' ⟨rfl, rfl⟩
    go_wp2_with fail
    go_loopw [20] (fun i wr => ∃ k : Nat, k ≤ len ∧ i = .int .i64 k ∧ Hid (okN ts k) ∧ Hid (Below w.heap.size w wr)) (fun i _ => len - (intOf i).toNat)
    case atStart => exact ⟨0, Nat.zero_le _, rfl, Lib.hid (okN_zero ts), Lib.hid (Below.refl _ _)⟩
    case round =>
      obtain ⟨k, hk, rfl, hok, hbr⟩ := hrel
      by_cases hlt : k < len
      · obtain ⟨t, b, off, ht, rfl, c0, c1, hAt⟩ := H.out wr hbr.out k hlt
        obtain ⟨t0, b', off', ht0, e', d0, d1, hAt0⟩ := H.out wr hbr.out 0 (by omega)
        simp only [Option.some.injEq, Addr.mk.injEq, and_true] at e'
        obtain ⟨rfl, rfl⟩ := e'
        simp only [Nat.zero_mul, Nat.add_zero] at d0
        obtain ⟨wB, hwB, J, z, n1⟩ := grid_box wr (.slice t.sa t.sl t.sc) (.slice t.ca t.cl t.cc)
        have hb2 := Lib.hid (hbr.out.trans (z.out.mono hbr.out.size))
        have sh := Lib.hid (shape0_at ht0)
        have R1 := Lib.hid (fun w1 (hb : Below wB.heap.size wB w1) => rright_any t.sa t.sl t.sc t.ss t.ca t.cl t.cc w1 ((hAt.1.kept z.out).kept hb) (by have := hAt.2.2.2; omega))
        have R2 := Lib.hid (fun w1 (hb : Below wB.heap.size wB w1) => same_any t.sa t.sl t.sc t.ss t0.sa t0.sl t0.sc t0.ss w1 ((hAt.1.kept z.out).kept hb) ((hAt0.1.kept z.out).kept hb))
        have F1 := Lib.hid (fun w1 (hb : Below wB.heap.size wB w1) => (J.out.kept hb).see)
        have F2 := Lib.hid (fun w1 (hb : Below wB.heap.size wB w1) => cell_later hb (cell_later z.out d0))
        have SK := Lib.hid (fun w' (hb : Below wB.heap.size wB w') => (⟨(F1.out w' hb).1, (F1.out w' hb).2.1, F2.out w' hb⟩ : w'.cell? ⟨wr.heap.size, 0, none⟩ = some (.slice t.sa t.sl t.sc) ∧ w'.cell? ⟨wr.heap.size, 1, none⟩ = some (.slice t.ca t.cl t.cc) ∧ w'.cell? ⟨b, off, none⟩ = some (.slice t0.sa t0.sl t0.sc)))
        have t1 : Below wB.heap.size wB wB.drew := (Below.refl _ _).drew
        have hp0 : ¬ len = 0 := by omega
        have u1 := SK.out _ t1
        have t1' := Lib.hid t1
        clear t1 hAt hAt0 d1
        cases r : rightT t.ss t.cl
        · have E : Hid (okTs ts = false) := Lib.hid (okTs_bad ht (by unfold okT; rw [r]; rfl))
          rw [r] at R1
          clear r
          go_upto_region 9 with (fail)
          rw [hwB.out]
          refine wp_region_held_drew (S := fun w' => w'.cell? ⟨wr.heap.size, 0, none⟩ = some (.slice t.sa t.sl t.sc) ∧ w'.cell? ⟨wr.heap.size, 1, none⟩ = some (.slice t.ca t.cl t.cc) ∧ w'.cell? ⟨b, off, none⟩ = some (.slice t0.sa t0.sl t0.sc)) (by kernel_rfl) u1 (fun hHeld => ?_)
          refine held_take 0 (.agg #[.slice t.sa t.sl t.sc, .slice t.ca t.cl t.cc]) rfl (by kernel_rfl) (by kernel_rfl) (by kernel_rfl) (fun _ _ _ h => h) (by rfl) (by intro w' hS; go_simp) (by assumption) ?_
          try simp only [Act.put, List.setIfInBounds_toArray, List.set_cons_zero, List.set_cons_succ]
          refine held_call 1 (by kernel_rfl) rfl (by rfl) (fun K hK => ?_)
          go_simp
          refine (R1.out _ t1'.out).mono ?_
          rintro e w2 ⟨rfl, hb⟩
          go_wp2_with fail
          refine hK.out _ _ (SK.out w2 (t1'.out.trans (hb.mono (Nat.le_refl _)))) (fun hHeld => ?_)
          try simp only [Act.put, List.setIfInBounds_toArray, List.set_cons_zero, List.set_cons_succ]
          refine held_take 2 (.bool true) rfl (by kernel_rfl) (by kernel_rfl) (by kernel_rfl) (fun _ _ _ h => h) (by rfl) (by intro w' hS; go_simp) (by assumption) ?_
          try simp only [Act.put, List.setIfInBounds_toArray, List.set_cons_zero, List.set_cons_succ]
          refine held_take 3 (.bool true) rfl (by kernel_rfl) (by kernel_rfl) (by kernel_rfl) (fun _ _ _ h => h) (by rfl) (by intro w' hS; go_simp) (by assumption) ?_
          try simp only [Act.put, List.setIfInBounds_toArray, List.set_cons_zero, List.set_cons_succ]
          refine held_skip 4 rfl (by kernel_rfl) (by kernel_rfl) (by kernel_rfl) (fun _ _ _ h => h) (by rfl) (by assumption) ?_
          try simp only [Act.put, List.setIfInBounds_toArray, List.set_cons_zero, List.set_cons_succ]
          refine held_skip 5 rfl (by kernel_rfl) (by kernel_rfl) (by kernel_rfl) (fun _ _ _ h => h) (by rfl) (by assumption) ?_
          try simp only [Act.put, List.setIfInBounds_toArray, List.set_cons_zero, List.set_cons_succ]
          refine held_skip 6 rfl (by kernel_rfl) (by kernel_rfl) (by kernel_rfl) (fun _ _ _ h => h) (by rfl) (by assumption) ?_
          try simp only [Act.put, List.setIfInBounds_toArray, List.set_cons_zero, List.set_cons_succ]
          refine held_skip 7 rfl (by kernel_rfl) (by kernel_rfl) (by kernel_rfl) (fun _ _ _ h => h) (by rfl) (by assumption) ?_
          try simp only [Act.put, List.setIfInBounds_toArray, List.set_cons_zero, List.set_cons_succ]
          refine held_skip 8 rfl (by kernel_rfl) (by kernel_rfl) (by kernel_rfl) (fun _ _ _ h => h) (by rfl) (by assumption) ?_
          try simp only [Act.put, List.setIfInBounds_toArray, List.set_cons_zero, List.set_cons_succ]
          refine held_skip 9 rfl (by kernel_rfl) (by kernel_rfl) (by kernel_rfl) (fun _ _ _ h => h) (by rfl) (by assumption) ?_
          try simp only [Act.put, List.setIfInBounds_toArray, List.set_cons_zero, List.set_cons_succ]
          refine held_left 10 (by kernel_rfl) rfl (by rfl) (by assumption) ?_
          try simp only [Act.put, List.setIfInBounds_toArray, List.set_cons_zero, List.set_cons_succ]
          refine held_skip 11 rfl (by kernel_rfl) (by kernel_rfl) (by kernel_rfl) (fun _ _ _ h => h) (by rfl) (by assumption) ?_
          try simp only [Act.put, List.setIfInBounds_toArray, List.set_cons_zero, List.set_cons_succ]
          refine held_take 12 (.bool true) rfl (by kernel_rfl) (by kernel_rfl) (by kernel_rfl) (fun _ _ _ h => h) (by rfl) (by intro w' hS; go_simp) (by assumption) ?_
          try simp only [Act.put, List.setIfInBounds_toArray, List.set_cons_zero, List.set_cons_succ]
          refine wpAnyH_done (by kernel_rfl) ?_ _
          go_wp2_with fail
          go_ret
          exact ⟨ret_int (by have := E4.out g'.out; simp at this; exact (this E.out).symm), hb2.out.trans ((t1'.out.trans (hb.mono (Nat.le_refl _))).mono hb2.out.size)⟩
        · obtain ⟨x, hx⟩ : ∃ x, sameL t.ss t0.ss = x := ⟨_, rfl⟩
          have ok2 := Lib.hid (show okT (shape0 ts) t = x by unfold okT; rw [r, sh.out, hx]; rfl)
          rw [r] at R1
          rw [hx] at R2
          clear r hx
          cases x
          · have E : Hid (okTs ts = false) := Lib.hid (okTs_bad ht ok2.out)
            go_upto_region 9 with (fail)
            rw [hwB.out]
            refine wp_region_held_drew (S := fun w' => w'.cell? ⟨wr.heap.size, 0, none⟩ = some (.slice t.sa t.sl t.sc) ∧ w'.cell? ⟨wr.heap.size, 1, none⟩ = some (.slice t.ca t.cl t.cc) ∧ w'.cell? ⟨b, off, none⟩ = some (.slice t0.sa t0.sl t0.sc)) (by kernel_rfl) u1 (fun hHeld => ?_)
            refine held_take 0 (.agg #[.slice t.sa t.sl t.sc, .slice t.ca t.cl t.cc]) rfl (by kernel_rfl) (by kernel_rfl) (by kernel_rfl) (fun _ _ _ h => h) (by rfl) (by intro w' hS; go_simp) (by assumption) ?_
            try simp only [Act.put, List.setIfInBounds_toArray, List.set_cons_zero, List.set_cons_succ]
            refine held_call 1 (by kernel_rfl) rfl (by rfl) (fun K hK => ?_)
            go_simp
            refine (R1.out _ t1'.out).mono ?_
            rintro e w2 ⟨rfl, hb⟩
            go_wp2_with fail
            refine hK.out _ _ (SK.out w2 (t1'.out.trans (hb.mono (Nat.le_refl _)))) (fun hHeld => ?_)
            try simp only [Act.put, List.setIfInBounds_toArray, List.set_cons_zero, List.set_cons_succ]
            refine held_take 2 (.bool false) rfl (by kernel_rfl) (by kernel_rfl) (by kernel_rfl) (fun _ _ _ h => h) (by rfl) (by intro w' hS; go_simp) (by assumption) ?_
            try simp only [Act.put, List.setIfInBounds_toArray, List.set_cons_zero, List.set_cons_succ]
            refine held_take 3 (.bool false) rfl (by kernel_rfl) (by kernel_rfl) (by kernel_rfl) (fun _ _ _ h => h) (by rfl) (by intro w' hS; go_simp) (by assumption) ?_
            try simp only [Act.put, List.setIfInBounds_toArray, List.set_cons_zero, List.set_cons_succ]
            refine held_take 4 (.pointer (some ⟨wr.heap.size, 0, none⟩)) rfl (by kernel_rfl) (by kernel_rfl) (by kernel_rfl) (fun _ _ _ h => h) (by rfl) (by intro w' hS; go_simp) (by assumption) ?_
            try simp only [Act.put, List.setIfInBounds_toArray, List.set_cons_zero, List.set_cons_succ]
            refine held_take 5 (.slice t.sa t.sl t.sc) rfl (by kernel_rfl) (by kernel_rfl) (by kernel_rfl) (fun _ _ _ h => h) (by rfl) (by intro w' hS; go_simp) (by assumption) ?_
            try simp only [Act.put, List.setIfInBounds_toArray, List.set_cons_zero, List.set_cons_succ]
            refine held_take 6 (.slice (some ⟨b, off, none⟩) len cap) rfl (by kernel_rfl) (by kernel_rfl) (by kernel_rfl) (fun _ _ _ h => h) (by rfl) (by intro w' hS; go_simp) (by assumption) ?_
            try simp only [Act.put, List.setIfInBounds_toArray, List.set_cons_zero, List.set_cons_succ]
            refine held_take 7 (.pointer (some ⟨b, off, none⟩)) rfl (by kernel_rfl) (by kernel_rfl) (by kernel_rfl) (fun _ _ _ h => h) (by rfl) (by intro w' hS; go_simp) (by assumption) ?_
            try simp only [Act.put, List.setIfInBounds_toArray, List.set_cons_zero, List.set_cons_succ]
            refine held_take 8 (.pointer (some ⟨b, off, none⟩)) rfl (by kernel_rfl) (by kernel_rfl) (by kernel_rfl) (fun _ _ _ h => h) (by rfl) (by intro w' hS; go_simp) (by assumption) ?_
            try simp only [Act.put, List.setIfInBounds_toArray, List.set_cons_zero, List.set_cons_succ]
            refine held_take 9 (.slice t0.sa t0.sl t0.sc) rfl (by kernel_rfl) (by kernel_rfl) (by kernel_rfl) (fun _ _ _ h => h) (by rfl) (by intro w' hS; go_simp) (by assumption) ?_
            try simp only [Act.put, List.setIfInBounds_toArray, List.set_cons_zero, List.set_cons_succ]
            refine held_call 10 (by kernel_rfl) rfl (by rfl) (fun K hK => ?_)
            go_simp
            refine (R2.out w2 (t1'.out.trans (hb.mono (Nat.le_refl _)))).mono ?_
            rintro e w3 ⟨rfl, m, rfl⟩
            go_wp2_with fail
            refine hK.out _ _ (SK.out _ (below_drewN' (t1'.out.trans (hb.mono (Nat.le_refl _))) m)) (fun hHeld => ?_)
            try simp only [Act.put, List.setIfInBounds_toArray, List.set_cons_zero, List.set_cons_succ]
            refine held_take 11 (.bool true) rfl (by kernel_rfl) (by kernel_rfl) (by kernel_rfl) (fun _ _ _ h => h) (by rfl) (by intro w' hS; go_simp) (by assumption) ?_
            try simp only [Act.put, List.setIfInBounds_toArray, List.set_cons_zero, List.set_cons_succ]
            refine held_take 12 (.bool true) rfl (by kernel_rfl) (by kernel_rfl) (by kernel_rfl) (fun _ _ _ h => h) (by rfl) (by intro w' hS; go_simp) (by assumption) ?_
            try simp only [Act.put, List.setIfInBounds_toArray, List.set_cons_zero, List.set_cons_succ]
            refine wpAnyH_done (by kernel_rfl) ?_ _
            go_wp2_with fail
            go_ret
            exact ⟨ret_int (by have := E4.out g'.out; simp at this; exact (this E.out).symm), hb2.out.trans ((below_drewN' (t1'.out.trans (hb.mono (Nat.le_refl _))) m).mono hb2.out.size)⟩
          · have ok3 := Lib.hid (okN_step hok.out ht ok2.out)
            go_upto_region 9 with (fail)
            rw [hwB.out]
            refine wp_region_held_drew (S := fun w' => w'.cell? ⟨wr.heap.size, 0, none⟩ = some (.slice t.sa t.sl t.sc) ∧ w'.cell? ⟨wr.heap.size, 1, none⟩ = some (.slice t.ca t.cl t.cc) ∧ w'.cell? ⟨b, off, none⟩ = some (.slice t0.sa t0.sl t0.sc)) (by kernel_rfl) u1 (fun hHeld => ?_)
            refine held_take 0 (.agg #[.slice t.sa t.sl t.sc, .slice t.ca t.cl t.cc]) rfl (by kernel_rfl) (by kernel_rfl) (by kernel_rfl) (fun _ _ _ h => h) (by rfl) (by intro w' hS; go_simp) (by assumption) ?_
            try simp only [Act.put, List.setIfInBounds_toArray, List.set_cons_zero, List.set_cons_succ]
            refine held_call 1 (by kernel_rfl) rfl (by rfl) (fun K hK => ?_)
            go_simp
            refine (R1.out _ t1'.out).mono ?_
            rintro e w2 ⟨rfl, hb⟩
            go_wp2_with fail
            refine hK.out _ _ (SK.out w2 (t1'.out.trans (hb.mono (Nat.le_refl _)))) (fun hHeld => ?_)
            try simp only [Act.put, List.setIfInBounds_toArray, List.set_cons_zero, List.set_cons_succ]
            refine held_take 2 (.bool false) rfl (by kernel_rfl) (by kernel_rfl) (by kernel_rfl) (fun _ _ _ h => h) (by rfl) (by intro w' hS; go_simp) (by assumption) ?_
            try simp only [Act.put, List.setIfInBounds_toArray, List.set_cons_zero, List.set_cons_succ]
            refine held_take 3 (.bool false) rfl (by kernel_rfl) (by kernel_rfl) (by kernel_rfl) (fun _ _ _ h => h) (by rfl) (by intro w' hS; go_simp) (by assumption) ?_
            try simp only [Act.put, List.setIfInBounds_toArray, List.set_cons_zero, List.set_cons_succ]
            refine held_take 4 (.pointer (some ⟨wr.heap.size, 0, none⟩)) rfl (by kernel_rfl) (by kernel_rfl) (by kernel_rfl) (fun _ _ _ h => h) (by rfl) (by intro w' hS; go_simp) (by assumption) ?_
            try simp only [Act.put, List.setIfInBounds_toArray, List.set_cons_zero, List.set_cons_succ]
            refine held_take 5 (.slice t.sa t.sl t.sc) rfl (by kernel_rfl) (by kernel_rfl) (by kernel_rfl) (fun _ _ _ h => h) (by rfl) (by intro w' hS; go_simp) (by assumption) ?_
            try simp only [Act.put, List.setIfInBounds_toArray, List.set_cons_zero, List.set_cons_succ]
            refine held_take 6 (.slice (some ⟨b, off, none⟩) len cap) rfl (by kernel_rfl) (by kernel_rfl) (by kernel_rfl) (fun _ _ _ h => h) (by rfl) (by intro w' hS; go_simp) (by assumption) ?_
            try simp only [Act.put, List.setIfInBounds_toArray, List.set_cons_zero, List.set_cons_succ]
            refine held_take 7 (.pointer (some ⟨b, off, none⟩)) rfl (by kernel_rfl) (by kernel_rfl) (by kernel_rfl) (fun _ _ _ h => h) (by rfl) (by intro w' hS; go_simp) (by assumption) ?_
            try simp only [Act.put, List.setIfInBounds_toArray, List.set_cons_zero, List.set_cons_succ]
            refine held_take 8 (.pointer (some ⟨b, off, none⟩)) rfl (by kernel_rfl) (by kernel_rfl) (by kernel_rfl) (fun _ _ _ h => h) (by rfl) (by intro w' hS; go_simp) (by assumption) ?_
            try simp only [Act.put, List.setIfInBounds_toArray, List.set_cons_zero, List.set_cons_succ]
            refine held_take 9 (.slice t0.sa t0.sl t0.sc) rfl (by kernel_rfl) (by kernel_rfl) (by kernel_rfl) (fun _ _ _ h => h) (by rfl) (by intro w' hS; go_simp) (by assumption) ?_
            try simp only [Act.put, List.setIfInBounds_toArray, List.set_cons_zero, List.set_cons_succ]
            refine held_call 10 (by kernel_rfl) rfl (by rfl) (fun K hK => ?_)
            go_simp
            refine (R2.out w2 (t1'.out.trans (hb.mono (Nat.le_refl _)))).mono ?_
            rintro e w3 ⟨rfl, m, rfl⟩
            go_wp2_with fail
            refine hK.out _ _ (SK.out _ (below_drewN' (t1'.out.trans (hb.mono (Nat.le_refl _))) m)) (fun hHeld => ?_)
            try simp only [Act.put, List.setIfInBounds_toArray, List.set_cons_zero, List.set_cons_succ]
            refine held_take 11 (.bool false) rfl (by kernel_rfl) (by kernel_rfl) (by kernel_rfl) (fun _ _ _ h => h) (by rfl) (by intro w' hS; go_simp) (by assumption) ?_
            try simp only [Act.put, List.setIfInBounds_toArray, List.set_cons_zero, List.set_cons_succ]
            refine held_take 12 (.bool false) rfl (by kernel_rfl) (by kernel_rfl) (by kernel_rfl) (fun _ _ _ h => h) (by rfl) (by intro w' hS; go_simp) (by assumption) ?_
            try simp only [Act.put, List.setIfInBounds_toArray, List.set_cons_zero, List.set_cons_succ]
            refine wpAnyH_done (by kernel_rfl) ?_ _
            have hb5 := Lib.hid (hb2.out.trans ((below_drewN' (t1'.out.trans (hb.mono (Nat.le_refl _))) m).mono hb2.out.size))
            go_wp2_with fail
            go_roundw
            case rel => exact ⟨k + 1, by omega, by go_num, ok3, hb5⟩
            case measure => (simp [intOf]; try omega)
      · obtain rfl : k = len := by omega
        go_wp2_with fail
        go_ret
        exact ⟨ret_int (by have := E3.out g'.out; simp at this; exact (this (okN_full hok.out (by rw [hts'.out]; omega))).symm), hbr.out⟩
  · clear h
    have E := Lib.hid (E2.out g'.out d)
    have d0 : ((len : Int) == n) = false := beq_eq_false_iff_ne.2 d
    clear d
    go_enter Try.func10, Try.ntmps10
    go_wp2_with fail
    refine C1.out.mono ?_
    rintro e w' ⟨rfl, rfl⟩
    go_wp2_with fail
    go_ret
    exact ⟨ret_int E.out.symm, Below.refl _ _⟩

end Go.Proofs.Ytilocmdanjekhaa
