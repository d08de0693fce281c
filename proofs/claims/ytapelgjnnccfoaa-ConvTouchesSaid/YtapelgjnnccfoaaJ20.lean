import Derived.Test.YtapelgjnnccfoaaJ04
import Derived.Test.YtapelgjnnccfoaaJ06
import Derived.Test.YtapelgjnnccfoaaJ08
import Derived.Test.YtapelgjnnccfoaaJ12
import Derived.Test.YtapelgjnnccfoaaJ13
/-
  The statements' count of the products that Touch tells.
-/
namespace Go.Proofs.Ytapelgjnnccfoaa
open Go.RowKit Go.Shelf
attribute [local go_sem] Oper.semAt_some
set_option linter.unusedVariables false
set_option linter.unusedSimpArgs false

/-- The product before the next; below all of them, ahead of the first. -/
def lastT (pre : List Tri) : Int × Int × Int := match pre.getLast? with
  | none => (-1, -1, -1)
  | some t => ((t.1 : Int), (t.2.1 : Int), (t.2.2 : Int))
theorem lastT_nil : lastT [] = (-1, -1, -1) := rfl
theorem lastT_snoc (pre : List Tri) (x : Tri) : lastT (pre ++ [x]) = ((x.1 : Int), (x.2.1 : Int), (x.2.2 : Int)) := by simp [lastT]
theorem last_later {l pre rest : List Tri} {x : Tri} (hp : l.Pairwise later) (h : l = pre ++ x :: rest) : (lastT pre).1 ≤ (x.1 : Int) ∧ ((x.1 : Int) = (lastT pre).1 → (lastT pre).2.1 < (x.2.1 : Int) ∧ (lastT pre).2.2 < (x.2.2 : Int)) := by
  rcases List.eq_nil_or_concat pre with rfl | ⟨q, y, e⟩
  · rw [lastT_nil]
    exact ⟨by show (-1 : Int) ≤ _; omega, fun _ => ⟨by show (-1 : Int) < _; omega, by show (-1 : Int) < _; omega⟩⟩
  · rw [List.concat_eq_append] at e
    subst e
    rw [lastT_snoc]
    rw [h, List.pairwise_append] at hp
    have hl := hp.2.2 y (by simp) x (by simp)
    unfold later at hl
    simp only
    constructor
    · omega
    · intro he
      omega
theorem touch_sorted (w x : List Int) (s : Int) : (touchL w x s).Pairwise later := by
  unfold touchL
  split
  · rename_i h
    exact PlanN.sorted (plan_facts h).ok
  · exact List.Pairwise.nil

/-- What count keeps through all rounds. -/
def CntB (B stop : Nat) (w : World) (k : Nat) (l0 l1 l2 : Int) (O : BSet) (V : World) : Prop :=
  Has O V B #[.int .i64 stop] 3 ∧ Has O V (B + 1) #[.int .i64 0] 3 ∧ Has O V (B + 2) #[.int .i64 k] 3 ∧ Has O V (B + 3) #[.int .i64 l0, .int .i64 l1, .int .i64 l2] 69 ∧ Base w O V ∧ ∀ j, O j → j < V.heap.size
def CntI (B stop : Nat) (w : World) (pre : List Tri) (O : BSet) (V : World) : Prop :=
  CntB B stop w pre.length (lastT pre).1 (lastT pre).2.1 (lastT pre).2.2 O V ∧ pre.length < stop
def CntX (B stop N : Nat) (w : World) (id : Nat) (c : Code) (_ : List Tri) (O : BSet) (V : World) : Prop :=
  c = .exit id ∧ (∃ l0 l1 l2, CntB B stop w stop l0 l1 l2 O V) ∧ stop ≤ N
theorem CntB.stable {B stop : Nat} {w : World} {k : Nat} {l0 l1 l2 : Int} {O O' : BSet} {V V' : World} (h : CntB B stop w k l0 l1 l2 O V) (hs : ItStep O V O' V') : CntB B stop w k l0 l1 l2 O' V' :=
  ⟨h.1.stable hs, h.2.1.stable hs, h.2.2.1.stable hs, h.2.2.2.1.stable hs, h.2.2.2.2.1.stable hs, fun j hj => (hs.top j hj).elim (fun h1 => Nat.lt_of_lt_of_le (h.2.2.2.2.2 j h1) hs.size) id⟩
theorem CntI.stable (B stop : Nat) (w : World) (pre : List Tri) : Stable (CntI B stop w pre) := fun O V O' V' h hs => ⟨h.1.stable hs, h.2⟩
theorem CntX.stable (B stop N : Nat) (w : World) (id : Nat) (c : Code) (p : List Tri) : Stable (CntX B stop N w id c p) := by
  rintro O V O' V' ⟨h1, ⟨l0, l1, l2, h2⟩, h3⟩ hs
  exact ⟨h1, ⟨l0, l1, l2, h2.stable hs⟩, h3⟩

set_option maxRecDepth 100000 in
set_option maxHeartbeats 8000000 in
theorem count_any (W x : TV) (s : Int) (stop : Nat) (w : World) (h : W.At w) (h' : x.At w) (c1 : W.CapS) (c2 : x.CapS) (hs1 : -9223372036854775808 ≤ s) (hs2 : s ≤ 9223372036854775807) (ht1 : 1 ≤ stop) (ht2 : stop ≤ 1048576) :
    Calls Try.prog 22 #[.slice W.sa W.sl W.sc, .slice x.sa x.sl x.sc, .int .i64 s, .int .i64 stop] w fun e w' => e = .returned (.int .i64 ((min stop (touchL W.ss x.ss s).length : Nat) : Int)) ∧ Below w.heap.size w w' := by
  obtain ⟨B, hB⟩ : ∃ B, w.heap.size = B := ⟨_, rfl⟩
  have HB := Lib.hid hB
  have HW := Lib.hid h
  have Hx := Lib.hid h'
  have IT := touch_iter (B + 4) (B + 5) (B + 6) W x s c1 c2 hs1 hs2
  have SO := touch_sorted W.ss x.ss s
  obtain ⟨xs, hxs⟩ : ∃ xs, touchL W.ss x.ss s = xs := ⟨_, rfl⟩
  rw [hxs] at IT SO ⊢
  obtain ⟨N, hN⟩ : ∃ N, xs.length = N := ⟨_, rfl⟩
  rw [hN]
  have HN := Lib.hid hN
  replace SO := Lib.hid SO
  clear h h' c1 c2 hB hxs hN
  refine (callsIn_wide (n := 1)).1 ?_
  refine callsIn_of_wp_marks Try.func22 rfl trivial ?_ rfl
  simp only [Try.ntmps22, List.size_toArray, List.length_cons, List.length_nil, Nat.reduceAdd, Nat.reduceSub, Array.replicate_succ, Array.replicate_zero, List.push_toArray, List.append_toArray, List.nil_append, List.cons_append]
  refine wpIn_wide.2 ?_
  go_wp2_with fail
  refine (touch_any _ _ _ _ _ _ _ _).mono ?_
  rintro e w' ⟨rfl, rfl⟩
  obtain ⟨V, hV⟩ : ∃ V, ((((((w.alloc (.cells #[.int .i64 stop] 3)).alloc (.cells #[.int .i64 0] 3)).alloc (.cells #[.int .i64 0] 3)).alloc (.cells #[.int .i64 (-1), .int .i64 (-1), .int .i64 (-1)] 69)).alloc (.cells #[.slice W.sa W.sl W.sc] 23)).alloc (.cells #[.slice x.sa x.sl x.sc] 23)).alloc (.cells #[.int .i64 s] 3) = V := ⟨_, rfl⟩
  have bel : ∀ (V : World) (o : Obj), Below V.heap.size V (V.alloc o) := fun V o => (Below.refl _ _).alloc (Nat.le_refl _) _
  have z1 := bel w (.cells #[.int .i64 stop] 3)
  generalize hV1 : w.alloc (.cells #[.int .i64 stop] 3) = V1 at z1 hV
  have s1 : V1.heap.size = B + 1 := by rw [← hV1, ← HB.out]; simp
  have p1 : Has (fun _ => False) V1 B #[.int .i64 stop] 3 := by rw [← hV1, ← HB.out]; exact Has.made w _ _ (fun h => h)
  have z2 := bel V1 (.cells #[.int .i64 0] 3)
  generalize hV2 : V1.alloc (.cells #[.int .i64 0] 3) = V2 at z2 hV
  have s2 : V2.heap.size = B + 2 := by rw [← hV2]; simp [s1]
  have p2 : Has (fun _ => False) V2 (B + 1) #[.int .i64 0] 3 := by rw [← hV2, ← s1]; exact Has.made V1 _ _ (fun h => h)
  have z3 := bel V2 (.cells #[.int .i64 0] 3)
  generalize hV3 : V2.alloc (.cells #[.int .i64 0] 3) = V3 at z3 hV
  have s3 : V3.heap.size = B + 3 := by rw [← hV3]; simp [s2]
  have p3 : Has (fun _ => False) V3 (B + 2) #[.int .i64 0] 3 := by rw [← hV3, ← s2]; exact Has.made V2 _ _ (fun h => h)
  have z4 := bel V3 (.cells #[.int .i64 (-1), .int .i64 (-1), .int .i64 (-1)] 69)
  generalize hV4 : V3.alloc (.cells #[.int .i64 (-1), .int .i64 (-1), .int .i64 (-1)] 69) = V4 at z4 hV
  have s4 : V4.heap.size = B + 4 := by rw [← hV4]; simp [s3]
  have p4 : Has (fun _ => False) V4 (B + 3) #[.int .i64 (-1), .int .i64 (-1), .int .i64 (-1)] 69 := by rw [← hV4, ← s3]; exact Has.made V3 _ _ (fun h => h)
  have z5 := bel V4 (.cells #[.slice W.sa W.sl W.sc] 23)
  generalize hV5 : V4.alloc (.cells #[.slice W.sa W.sl W.sc] 23) = V5 at z5 hV
  have s5 : V5.heap.size = B + 5 := by rw [← hV5]; simp [s4]
  have p5 : Has (fun _ => False) V5 (B + 4) #[.slice W.sa W.sl W.sc] 23 := by rw [← hV5, ← s4]; exact Has.made V4 _ _ (fun h => h)
  have z6 := bel V5 (.cells #[.slice x.sa x.sl x.sc] 23)
  generalize hV6 : V5.alloc (.cells #[.slice x.sa x.sl x.sc] 23) = V6 at z6 hV
  have s6 : V6.heap.size = B + 6 := by rw [← hV6]; simp [s5]
  have p6 : Has (fun _ => False) V6 (B + 5) #[.slice x.sa x.sl x.sc] 23 := by rw [← hV6, ← s5]; exact Has.made V5 _ _ (fun h => h)
  have z7 := bel V6 (.cells #[.int .i64 s] 3)
  rw [hV] at z7
  have s7 : V.heap.size = B + 7 := by rw [← hV]; simp [s6]
  have p7 : Has (fun _ => False) V (B + 6) #[.int .i64 s] 3 := by rw [← hV, ← s6]; exact Has.made V6 _ _ (fun h => h)
  have q1 := ((((((p1.below z2).below z3).below z4).below z5).below z6).below z7)
  have q2 := (((((p2.below z3).below z4).below z5).below z6).below z7)
  have q3 := ((((p3.below z4).below z5).below z6).below z7)
  have q4 := (((p4.below z5).below z6).below z7)
  have q5 := ((p5.below z6).below z7)
  have q6 := (p6.below z7)
  have z : Below w.heap.size w V := by
    refine z1.trans ((z2.mono ?_).trans ((z3.mono ?_).trans ((z4.mono ?_).trans ((z5.mono ?_).trans ((z6.mono ?_).trans (z7.mono ?_)))))) <;> (have := HB.out; omega)
  have TC : TouchC (B + 4) (B + 5) (B + 6) W x s V := ⟨q5.cell 0, q6.cell 0, p7.cell 0, HW.out.kept z, Hx.out.kept z⟩
  have r0 : CntI B stop w [] (fun _ => False) V := ⟨⟨q1, q2, q3, q4, ⟨z, fun _ h => h.elim⟩, fun _ h => h.elim⟩, by simp; omega⟩
  rw [hV]
  simp only [s1, s2, s3, s4, s5, s6, HB.out, Nat.add_assoc, Nat.reduceAdd]
  clear hV hV1 hV2 hV3 hV4 hV5 hV6 z1 z2 z3 z4 z5 z6 z7 s1 s2 s3 s4 s5 s6 p1 p2 p3 p4 p5 p6 q1 q2 q3 q4 q5 q6 p7 z bel
  have SV := Lib.hid s7
  clear s7
  go_wp2_with fail
  refine (wpIn_wide (n := 1)).1 ?_
  refine range_lawA (gf := 47) (lb := #[.pointer (some ⟨B + 4, 0, none⟩), .pointer (some ⟨B + 5, 0, none⟩), .pointer (some ⟨B + 6, 0, none⟩)]) rfl (enters_of Try.func47 (by kernel_rfl) rfl) IT (fun _ _ => rfl) (fun _ h => h.elim)
    (fun _ _ _ _ _ _ _ _ _ _ _ => trivial) (fun W' hb' => TC.kept hb') (CntI B stop w) (CntX B stop N w 0) (CntI.stable B stop w) (CntX.stable B stop N w 0) r0 ?round ?done ?stop
  case stop =>
    rintro D O c pre V' hD hO hdef ⟨rfl, ⟨l0, l1, l2, hx⟩, hp⟩
    have hmin : min stop N = stop := by omega
    obtain ⟨qS, qR, qK, qL, qB, -⟩ := hx
    have cR : V'.cell? ⟨B + 1, 0, none⟩ = some (.int .i64 0) := qR.cell 0
    have cK : V'.cell? ⟨B + 2, 0, none⟩ = some (.int .i64 stop) := qK.cell 0
    have fR := qR.frozen 0
    have hDB : D ≠ B + 1 := fun e => qR.1 (e ▸ hO)
    have fin : ((V'.setCell ⟨B + 1, 0, none⟩ (.int .i64 stop)).putObj D (.deferred none)).cell? ⟨B + 1, 0, none⟩ = some (.int .i64 stop) ∧ Below w.heap.size w ((V'.setCell ⟨B + 1, 0, none⟩ (.int .i64 stop)).putObj D (.deferred none)) := by
      have q2 : Has O (V'.setCell ⟨B + 1, 0, none⟩ (.int .i64 stop)) (B + 1) #[.int .i64 stop] 3 := qR.set 0 (.int .i64 stop)
      refine ⟨?_, below_putObj (qB.1.setCell (p := ⟨B + 1, 0, none⟩) (by simp [HB.out]) _) D _ (by have := SV.out; have := HB.out; omega)⟩
      rw [(q2.putObj D (.deferred none) hO).cell 0]; rfl
    have hdef2 : (V'.setCell ⟨B + 1, 0, none⟩ (.int .i64 stop)).heap[D]? = some (.deferred (some [])) := (Below.heap_setCell V' ⟨B + 1, 0, none⟩ _ D (by simpa using hDB)).trans hdef
    have F := Lib.hid fin
    have HD := Lib.hid hdef2
    clear fin hdef hdef2 qS qR qK qL qB hDB r0
    refine wpIn_wide.2 ?_
    go_wp2_with fail
    refine leaves_mark HD.out ⟨.int .i64 stop, ?_, ret_int (by rw [hmin]), F.out.2⟩
    simp [results, Try.results22, go_sem, F.out.1]
  case done =>
    rintro D O V' hD hO hdef ⟨hx, hlt⟩
    rw [HN.out] at hx hlt
    have hmin : min stop N = N := by omega
    obtain ⟨l0, hl0⟩ : ∃ l, (lastT xs).1 = l := ⟨_, rfl⟩
    obtain ⟨l1, hl1⟩ : ∃ l, (lastT xs).2.1 = l := ⟨_, rfl⟩
    obtain ⟨l2, hl2⟩ : ∃ l, (lastT xs).2.2 = l := ⟨_, rfl⟩
    rw [hl0, hl1, hl2] at hx
    clear hl0 hl1 hl2
    obtain ⟨qS, qR, qK, qL, qB, -⟩ := hx
    have cR : V'.cell? ⟨B + 1, 0, none⟩ = some (.int .i64 0) := qR.cell 0
    have cK : V'.cell? ⟨B + 2, 0, none⟩ = some (.int .i64 N) := qK.cell 0
    have fR := qR.frozen 0
    have hDB : D ≠ B + 1 := fun e => qR.1 (e ▸ hO)
    have fin : ((V'.setCell ⟨B + 1, 0, none⟩ (.int .i64 N)).putObj D (.deferred none)).cell? ⟨B + 1, 0, none⟩ = some (.int .i64 N) ∧ Below w.heap.size w ((V'.setCell ⟨B + 1, 0, none⟩ (.int .i64 N)).putObj D (.deferred none)) := by
      have q2 : Has O (V'.setCell ⟨B + 1, 0, none⟩ (.int .i64 N)) (B + 1) #[.int .i64 N] 3 := qR.set 0 (.int .i64 N)
      refine ⟨?_, below_putObj (qB.1.setCell (p := ⟨B + 1, 0, none⟩) (by simp [HB.out]) _) D _ (by have := SV.out; have := HB.out; omega)⟩
      rw [(q2.putObj D (.deferred none) hO).cell 0]; rfl
    have hdef2 : (V'.setCell ⟨B + 1, 0, none⟩ (.int .i64 N)).heap[D]? = some (.deferred (some [])) := (Below.heap_setCell V' ⟨B + 1, 0, none⟩ _ D (by simpa using hDB)).trans hdef
    have F := Lib.hid fin
    have HD := Lib.hid hdef2
    clear fin hdef hdef2 qS qR qK qL qB hDB r0
    go_wp2_with fail
    refine leaves_mark HD.out ⟨.int .i64 N, ?_, ret_int (by rw [hmin]), F.out.2⟩
    simp [results, Try.results22, go_sem, F.out.1]
  case round =>
    rintro l pre ⟨a, b, d⟩ ⟨⟩ rest O Wa V2 hxs hsz ⟨hx, hlt⟩ _
    obtain ⟨o1, o2⟩ := last_later SO.out hxs
    obtain ⟨k, hk⟩ : ∃ k, pre.length = k := ⟨_, rfl⟩
    have hkN : k + 1 ≤ N := by
      have := congrArg List.length hxs
      simp at this
      have := HN.out
      omega
    have LS := Lib.hid (lastT_snoc pre (a, b, d))
    obtain ⟨l0, hl0⟩ : ∃ l, (lastT pre).1 = l := ⟨_, rfl⟩
    obtain ⟨l1, hl1⟩ : ∃ l, (lastT pre).2.1 = l := ⟨_, rfl⟩
    obtain ⟨l2, hl2⟩ : ∃ l, (lastT pre).2.2 = l := ⟨_, rfl⟩
    rw [hk, hl0, hl1, hl2] at hx
    rw [hk] at hlt
    rw [hl0, hl1, hl2] at o2
    rw [hl0] at o1
    simp only at o1 o2
    have HSZ := Lib.hid hsz
    have HX := Lib.hid hx
    have HK := Lib.hid hk
    rw [show triV (a, b, d) () = #[.agg #[.int .i64 (a : Int), .int .i64 (b : Int), .int .i64 (d : Int)]] from rfl]
    clear hxs hsz hx hl0 hl1 hl2 hk r0
    gi_wp2
    refine ⟨_, rfl, ?_⟩
    rw [← HSZ.out]
    obtain ⟨V3, hV3⟩ : ∃ V, V2.alloc (.cells #[.int .i64 (a : Int), .int .i64 (b : Int), .int .i64 (d : Int)] 69) = V := ⟨_, rfl⟩
    obtain ⟨P, hP⟩ : ∃ P, V2.heap.size = P := ⟨_, rfl⟩
    have z3 : Below V2.heap.size V2 V3 := by rw [← hV3]; exact (Below.refl _ _).alloc (Nat.le_refl _) _
    have hPo : ¬ O P := fun h => by have := HX.out.2.2.2.2.2 P h; omega
    have pP : Has O V3 P #[.int .i64 (a : Int), .int .i64 (b : Int), .int .i64 (d : Int)] 69 := by rw [← hV3, ← hP]; exact Has.made V2 _ _ (by rw [hP]; exact hPo)
    rw [hV3]
    simp only [hP]
    have X3 := Lib.hid (show CntB B stop w k l0 l1 l2 O V3 from HX.out.stable (ItStep.of_below z3))
    have r3 : RdStep (fun k => O k) V2 V3 := RdStep.of_below z3
    obtain ⟨qS, qR, qK, qL, qB, qO⟩ := X3.out
    have nL : ¬ O (B + 3) := qL.1
    have nK : ¬ O (B + 2) := qK.1
    have e1 : ((k + 1 : Nat) : Int) = (k : Int) + 1 := by omega
    have fin : RdStep (fun k => O k) V2 ((((V3.setCell ⟨B + 3, 0, none⟩ (.int .i64 a)).setCell ⟨B + 3, 1, none⟩ (.int .i64 b)).setCell ⟨B + 3, 2, none⟩ (.int .i64 d)).setCell ⟨B + 2, 0, none⟩ (.int .i64 ((k : Int) + 1))) ∧
        CntB B stop w (k + 1) a b d O ((((V3.setCell ⟨B + 3, 0, none⟩ (.int .i64 a)).setCell ⟨B + 3, 1, none⟩ (.int .i64 b)).setCell ⟨B + 3, 2, none⟩ (.int .i64 d)).setCell ⟨B + 2, 0, none⟩ (.int .i64 ((k : Int) + 1))) := by
      refine ⟨(((r3.trans (RdStep.setCell V3 ⟨B + 3, 0, none⟩ _ nL)).trans (RdStep.setCell _ ⟨B + 3, 1, none⟩ _ nL)).trans (RdStep.setCell _ ⟨B + 3, 2, none⟩ _ nL)).trans (RdStep.setCell _ ⟨B + 2, 0, none⟩ _ nK), ?_, ?_, ?_, ?_, ?_, ?_⟩
      · exact (((qS.other (p := ⟨B + 3, 0, none⟩) _ (by simp)).other (p := ⟨B + 3, 1, none⟩) _ (by simp)).other (p := ⟨B + 3, 2, none⟩) _ (by simp)).other (p := ⟨B + 2, 0, none⟩) _ (by simp)
      · exact (((qR.other (p := ⟨B + 3, 0, none⟩) _ (by simp)).other (p := ⟨B + 3, 1, none⟩) _ (by simp)).other (p := ⟨B + 3, 2, none⟩) _ (by simp)).other (p := ⟨B + 2, 0, none⟩) _ (by simp)
      · rw [e1]; exact (((qK.other (p := ⟨B + 3, 0, none⟩) _ (by simp)).other (p := ⟨B + 3, 1, none⟩) _ (by simp)).other (p := ⟨B + 3, 2, none⟩) _ (by simp)).set 0 (.int .i64 ((k : Int) + 1))
      · exact (((qL.set 0 (.int .i64 a)).set 1 (.int .i64 b)).set 2 (.int .i64 d)).other (p := ⟨B + 2, 0, none⟩) _ (by simp)
      · exact ⟨(((qB.1.setCell (p := ⟨B + 3, 0, none⟩) (by rw [HB.out]; simp) _).setCell (p := ⟨B + 3, 1, none⟩) (by rw [HB.out]; simp) _).setCell (p := ⟨B + 3, 2, none⟩) (by rw [HB.out]; simp) _).setCell (p := ⟨B + 2, 0, none⟩) (by rw [HB.out]; simp) _, qB.2⟩
      · intro j hj
        exact Nat.lt_of_lt_of_le (qO j hj) (Nat.le_trans (RdStep.setCell (M := fun _ => False) V3 ⟨B + 3, 0, none⟩ _ (fun h => h)).size (Nat.le_trans (RdStep.setCell (M := fun _ => False) _ ⟨B + 3, 1, none⟩ _ (fun h => h)).size (Nat.le_trans (RdStep.setCell (M := fun _ => False) _ ⟨B + 3, 2, none⟩ _ (fun h => h)).size (RdStep.setCell (M := fun _ => False) _ ⟨B + 2, 0, none⟩ _ (fun h => h)).size)))
    have F := Lib.hid fin
    have a0 : V3.cell? ⟨P, 0, none⟩ = some (.int .i64 (a : Int)) := pP.cell 0
    have a1 : V3.cell? ⟨P, 1, none⟩ = some (.int .i64 (b : Int)) := pP.cell 1
    have a2 : V3.cell? ⟨P, 2, none⟩ = some (.int .i64 (d : Int)) := pP.cell 2
    have c0 : V3.cell? ⟨B + 3, 0, none⟩ = some (.int .i64 l0) := qL.cell 0
    have c1 : V3.cell? ⟨B + 3, 1, none⟩ = some (.int .i64 l1) := qL.cell 1
    have c2 : V3.cell? ⟨B + 3, 2, none⟩ = some (.int .i64 l2) := qL.cell 2
    have f0 := qL.frozen 0
    have f1 := qL.frozen 1
    have f2 := qL.frozen 2
    have cK : V3.cell? ⟨B + 2, 0, none⟩ = some (.int .i64 k) := qK.cell 0
    have fK := qK.frozen 0
    have cS : V3.cell? ⟨B, 0, none⟩ = some (.int .i64 stop) := qS.cell 0
    have hwr : IntKind.i64.wrap ((k : Int) + 1) = (k : Int) + 1 := IntWalk.i64_in _ (by omega)
    have hPB3 : ¬ P = B + 3 := fun e => by have := HX.out.2.2.2.1.lt; omega
    have d1 : decide ((a : Int) < l0) = false := decide_eq_false (by omega)
    have HK1 := Lib.hid hkN
    have G' : Hid (∀ V, RdStep (fun k => O k) V2 V ∧ CntB B stop w (k + 1) a b d O V → k + 1 = stop → RdStep (fun k => O k) V2 V ∧ CntX B stop N w 0 (.exit 0) (pre ++ [(a, b, d)]) O V) := Lib.hid (fun V h he => ⟨h.1, rfl, ⟨_, _, _, he ▸ h.2⟩, by omega⟩)
    have I' : Hid (∀ V, RdStep (fun k => O k) V2 V ∧ CntB B stop w (k + 1) a b d O V → k + 1 < stop → RdStep (fun k => O k) V2 V ∧ CntI B stop w (pre ++ [(a, b, d)]) O V) := Lib.hid (fun V h he => ⟨h.1, by
      unfold CntI
      rw [LS.out, List.length_append, HK.out]
      exact ⟨h.2, he⟩⟩)
    by_cases he : (a : Int) = l0
    · have d2 : ((a : Int) == l0) = true := by simpa using he
      have d3 : decide ((b : Int) ≤ l1) = false := decide_eq_false (by have := o2 he; omega)
      have d4 : decide ((d : Int) ≤ l2) = false := decide_eq_false (by have := o2 he; omega)
      clear fin X3 HX qS qR qK qL qB qO nL nK e1 r3 z3 hPo pP hV3 hP o1 o2 he
      by_cases hks : k + 1 = stop
      · have hks' : (k : Int) + 1 = (stop : Int) := by omega
        have hks2 := Lib.hid hks
        clear hks
        gi_wp2_with fail
        exact G'.out _ (by rw [hks'] at F; exact F.out) hks2.out
      · have hks' : ¬ (k : Int) + 1 = (stop : Int) := by omega
        have hks3 : ((k : Int) + 1 == (stop : Int)) = false := by simpa using hks'
        clear hks'
        have hks2 := Lib.hid (show k + 1 < stop by omega)
        clear hks
        gi_wp2_with fail
        exact I'.out _ F.out hks2.out
    · have d2 : ((a : Int) == l0) = false := by simpa using he
      clear fin X3 HX qS qR qK qL qB qO nL nK e1 r3 z3 hPo pP hV3 hP o1 o2 he
      by_cases hks : k + 1 = stop
      · have hks' : (k : Int) + 1 = (stop : Int) := by omega
        have hks2 := Lib.hid hks
        clear hks
        gi_wp2_with fail
        exact G'.out _ (by rw [hks'] at F; exact F.out) hks2.out
      · have hks' : ¬ (k : Int) + 1 = (stop : Int) := by omega
        have hks3 : ((k : Int) + 1 == (stop : Int)) = false := by simpa using hks'
        clear hks'
        have hks2 := Lib.hid (show k + 1 < stop by omega)
        clear hks
        gi_wp2_with fail
        exact I'.out _ F.out hks2.out
end Go.Proofs.Ytapelgjnnccfoaa

/-
  The walk of the statement ConvTouches.
-/
namespace Go.Proofs.Ytapelgjnnccfoaa
open Go.RowKit
set_option linter.unusedVariables false
set_option linter.unusedSimpArgs false

/-- How many products there are. -/
theorem touch_count {ws xs : List Int} {s : Int} (h : toldE ws xs s = 0) : ∃ N M O : Nat, prodI (outS ws xs s) = N ∧ prodI ws = M ∧ ws.getD 0 0 = O ∧ 1 ≤ O ∧ N ≤ 65536 ∧ M ≤ 65536 ∧ (touchL ws xs s).length = N * M / O := by
  have F := plan_facts h
  obtain ⟨t1, t2, t3⟩ := told_parts h
  obtain ⟨g1, g2, -, -, -⟩ := formOk_parts t1
  have b1 := (rightS_parts t3).2.2.2
  have b2 := (rightS_parts g1).2.2.2
  have o1 := F.out
  have o2 := F.kernel
  have hO : ws.getD 0 0 = ((planOf ws xs s).O : Int) := by
    have aw := (rightS_parts g1).2.2.1
    rcases form_cases t1 with ⟨o, c, l, n, rfl, rfl⟩ | ⟨o, c, k, l, hh, n, rfl, rfl⟩
    · have := allR_getD aw 0 (by simp)
      simp at this
      show o = ((o.toNat : Nat) : Int)
      omega
    · have := allR_getD aw 0 (by simp)
      simp at this
      show o = ((o.toNat : Nat) : Int)
      omega
  refine ⟨_, _, _, o1.symm, o2.symm, hO, F.pos.1, by omega, by omega, ?_⟩
  unfold touchL
  rw [if_pos h]
  exact PlanN.count _ F.pos.1

set_option maxRecDepth 100000 in
set_option maxHeartbeats 4000000 in
theorem convTouches_few (W x : TV) (s : Int) (w : World) (cf : fewC W.sl x.sl = false) :
    Calls Try.prog 6 #[.slice W.sa W.sl W.sc, .slice x.sa x.sl x.sc, .int .i64 s] w fun e w' => e = .returned (.bool true) ∧ Below w.heap.size w w' := by
  have FE := fun w1 => few_any W.sa W.sl W.sc x.sa x.sl x.sc w1
  rw [cf] at FE
  replace FE := Lib.hid FE
  have t0 := Lib.hid (Below.refl w.heap.size w)
  clear cf
  go_enter Try.func6, Try.ntmps6
  go_wp2_with fail
  refine (FE.out w).mono ?_
  rintro e w1 ⟨rfl, rfl⟩
  go_wp2_with fail
  refine (awake07_any _).mono ?_
  rintro e w9 ⟨rfl, hb9⟩
  go_wp2_with fail
  go_ret
  exact ⟨rfl, t0.out.trans (hb9.mono t0.out.size)⟩

set_option maxRecDepth 100000 in
set_option maxHeartbeats 4000000 in
theorem convTouches_no (W x : TV) (s : Int) (w : World) (hW : W.At w ∧ W.CapS) (hx : x.At w ∧ x.CapS) (hs1 : -9223372036854775808 ≤ s) (hs2 : s ≤ 9223372036854775807) (cf : fewC W.sl x.sl = true) (h0 : toldE W.ss x.ss s ≠ 0) :
    Calls Try.prog 6 #[.slice W.sa W.sl W.sc, .slice x.sa x.sl x.sc, .int .i64 s] w fun e w' => e = .returned (.bool true) ∧ Below w.heap.size w w' := by
  have FE := fun w1 => few_any W.sa W.sl W.sc x.sa x.sl x.sc w1
  rw [cf] at FE
  replace FE := Lib.hid FE
  have TO := Lib.hid (fun w1 (hb : Below w.heap.size w w1) => (told_any W x s w1 (hW.1.kept hb) (hx.1.kept hb)).mono fun e w' h => h.2 h0)
  have CO := fun w1 (hb : Below w.heap.size w w1) => count_any W x s 1 w1 (hW.1.kept hb) (hx.1.kept hb) hW.2 hx.2 hs1 hs2 (by omega) (by omega)
  have hn : (touchL W.ss x.ss s).length = 0 := by unfold touchL; rw [if_neg h0]; rfl
  rw [hn] at CO
  replace CO := Lib.hid (fun w1 hb => (show Calls Try.prog 22 #[.slice W.sa W.sl W.sc, .slice x.sa x.sl x.sc, .int .i64 s, .int .i64 1] w1 fun e w' => e = .returned (.int .i64 0) ∧ Below w1.heap.size w1 w' from CO w1 hb))
  obtain ⟨v, hv⟩ : ∃ v, toldE W.ss x.ss s = v := ⟨_, rfl⟩
  rw [hv] at TO h0
  clear hv cf hn hW hx
  go_enter Try.func6, Try.ntmps6
  go_wp2_with fail
  refine (FE.out w).mono ?_
  rintro e w1 ⟨rfl, rfl⟩
  go_wp2_with fail
  refine (awake07_any _).mono ?_
  rintro e w1 ⟨rfl, hb⟩
  have b1 := Lib.hid hb
  clear hb FE
  go_wp2_with fail
  refine (TO.out w1 b1.out).mono ?_
  rintro e w2 ⟨rfl, hb⟩
  have b2 := Lib.hid (b1.out.trans (hb.mono b1.out.size))
  clear hb TO
  go_wp2_with fail
  refine (CO.out w2 b2.out).mono ?_
  rintro e w3 ⟨rfl, hb⟩
  have b3 := Lib.hid (b2.out.trans (hb.mono b2.out.size))
  clear hb CO
  go_wp2_with fail
  refine (awake07_any _).mono ?_
  rintro e w9 ⟨rfl, hb9⟩
  go_wp2_with fail
  go_ret
  exact ⟨rfl, b3.out.trans (hb9.mono b3.out.size)⟩

set_option maxRecDepth 100000 in
set_option maxHeartbeats 8000000 in
theorem convTouches_big (W x : TV) (s : Int) (w : World) (hW : W.At w ∧ W.CapS) (hx : x.At w ∧ x.CapS) (hs1 : -9223372036854775808 ≤ s) (hs2 : s ≤ 9223372036854775807) (cf : fewC W.sl x.sl = true) (h0 : toldE W.ss x.ss s = 0) (N M O : Nat) (e1 : prodI (outS W.ss x.ss s) = N) (e2 : prodI W.ss = M) (e3 : W.ss.getD 0 0 = O) (e4 : 1 ≤ O) (e5 : N ≤ 65536) (e6 : M ≤ 65536) (e7 : (touchL W.ss x.ss s).length = N * M / O) (hg : 200 < N ∨ 200 < M) :
    Calls Try.prog 6 #[.slice W.sa W.sl W.sc, .slice x.sa x.sl x.sc, .int .i64 s] w fun e w' => e = .returned (.bool true) ∧ Below w.heap.size w w' := by
  have FE := fun w1 => few_any W.sa W.sl W.sc x.sa x.sl x.sc w1
  rw [cf] at FE
  have TO := fun w1 (hb : Below w.heap.size w w1) => (told_any W x s w1 (hW.1.kept hb) (hx.1.kept hb)).mono fun e w' h => h.1 h0
  have CO := fun w1 (hb : Below w.heap.size w w1) => count_any W x s 3 w1 (hW.1.kept hb) (hx.1.kept hb) hW.2 hx.2 hs1 hs2 (by omega) (by omega)
  rw [e7] at CO
  obtain ⟨q, hq⟩ : ∃ q, N * M = q := ⟨_, rfl⟩
  have hq2 : q ≤ 4294967296 := by rw [← hq]; exact Nat.le_trans (Nat.mul_le_mul e5 e6) (by decide)
  have hmul := wmul hq (by omega)
  rw [hq] at CO
  obtain ⟨T, hT⟩ : ∃ T, q / O = T := ⟨_, rfl⟩
  have hT2 : T ≤ 4294967296 := by rw [← hT]; exact Nat.le_trans (Nat.div_le_self _ _) hq2
  have hquo : Int.tdiv (q : Int) (O : Int) = (T : Int) := by rw [Int.tdiv_eq_ediv_of_nonneg (by omega), ← hT]; rfl
  have hwT : IntKind.i64.wrap (T : Int) = (T : Int) := IntWalk.i64_in _ (by omega)
  rw [hT] at CO
  obtain ⟨c, hc⟩ : ∃ c, min 3 T = c := ⟨_, rfl⟩
  have hmin : (if (T : Int) < 3 then (T : Int) else 3) = (c : Int) := by split <;> omega
  rw [hc] at CO
  have hO0 : ¬ O = 0 := by omega
  have SN := fun A p w1 (hI : IntsAt w1 A x.ss.length (outS W.ss x.ss s)) => refsize_any A x.ss.length p (outS W.ss x.ss s) w1 hI (told_parts h0).2.2
  have SM := fun w1 (hb : Below w.heap.size w w1) => refsize_any W.sa W.sl W.sc W.ss w1 (hW.1.1.kept hb) (formOk_parts (told_parts h0).1).1
  rw [e1] at SN
  rw [e2] at SM
  have hk9 : x.ss.length ≤ 9223372036854775807 := by have := hx.1.1.1; have := hx.1.2.2.1; omega
  have hfo := outS_fit h0
  have hsl : 0 < W.sl := by have := hW.1.1.1; have := (rightS_parts (formOk_parts (told_parts h0).1).1).1; omega
  obtain ⟨b, off, hba, hc0⟩ := ints_cell hW.1.1 hsl
  have F0 := fun w1 (hb : Below w.heap.size w w1) => cell_later hb (hc0 0 hsl)
  rw [e3] at F0
  simp only [Nat.add_zero] at F0
  have hne : ¬ W.sl = 0 := by omega
  obtain ⟨os, hos⟩ : ∃ os, outS W.ss x.ss s = os := ⟨_, rfl⟩
  obtain ⟨k, hk⟩ : ∃ k, x.ss.length = k := ⟨_, rfl⟩
  obtain ⟨sl, hsle⟩ : ∃ k, W.sl = k := ⟨_, rfl⟩
  rw [hos, hk] at TO SN
  rw [hos] at hfo
  rw [hk] at hk9
  rw [hba, hsle] at FE TO CO SM
  rw [hsle] at hne
  rw [hba, hsle]
  replace FE := Lib.hid FE
  replace TO := Lib.hid TO
  replace CO := Lib.hid CO
  replace SN := Lib.hid SN
  replace SM := Lib.hid SM
  replace F0 := Lib.hid F0
  replace hfo := Lib.hid hfo
  have hd1 := Lib.hid hg
  clear hos hk hsle hba hc0 hsl cf h0 e1 e2 e3 e4 e5 e6 e7 hq hT hq2 hT2 hg hW hx hs1 hs2 hc
  by_cases hN : 200 < N
  · have d1 : decide ((200 : Int) < (N : Int)) = true := decide_eq_true (by omega)
    clear hN hd1
    go_enter Try.func6, Try.ntmps6
    go_wp2_with fail
    refine (FE.out w).mono ?_
    rintro e w1 ⟨rfl, rfl⟩
    go_wp2_with fail
    refine (awake07_any _).mono ?_
    rintro e w1 ⟨rfl, hb⟩
    have b1 := Lib.hid hb
    clear hb FE
    go_wp2_with fail
    refine (TO.out w1 b1.out).mono ?_
    rintro e w2 ⟨A6, p6, rfl, o6, hb⟩
    have b2 := Lib.hid (b1.out.trans (hb.mono b1.out.size))
    have I6 := Lib.hid (row_ints o6 hk9 hfo.out)
    clear hb TO o6
    go_wp2_with fail
    refine (SN.out A6 p6 w2 I6.out).mono ?_
    rintro e w3 ⟨rfl, rfl⟩
    go_wp2_with fail
    go_upto_region 7 with (fail)
    have SK := Lib.hid (fun w' (hb : Below w2.heap.size w2 w') => (show w'.cell? ⟨b, off, none⟩ = some (.int .i64 O) from F0.out w' (b2.out.trans (hb.mono b2.out.size))))
    have t1 := Lib.hid (show Below w2.heap.size w2 w2.drew from (Below.refl _ _).drew)
    refine wp_region_held_drew (S := fun w' => w'.cell? ⟨b, off, none⟩ = some (.int .i64 O)) (by kernel_rfl) (SK.out _ t1.out) (fun hHeld => ?_)
    refine held_take 0 (.slice (some ⟨b, off, none⟩) sl W.sc) rfl (by kernel_rfl) (by kernel_rfl) (by kernel_rfl) (fun _ _ _ h => h) (by rfl) (by intro w' hS; go_simp) (by assumption) ?_
    try simp only [Act.put, List.setIfInBounds_toArray, List.set_cons_zero, List.set_cons_succ]
    refine held_take 1 (.slice x.sa x.sl x.sc) rfl (by kernel_rfl) (by kernel_rfl) (by kernel_rfl) (fun _ _ _ h => h) (by rfl) (by intro w' hS; go_simp) (by assumption) ?_
    try simp only [Act.put, List.setIfInBounds_toArray, List.set_cons_zero, List.set_cons_succ]
    refine held_take 2 (.int .i64 s) rfl (by kernel_rfl) (by kernel_rfl) (by kernel_rfl) (fun _ _ _ h => h) (by rfl) (by intro w' hS; go_simp) (by assumption) ?_
    try simp only [Act.put, List.setIfInBounds_toArray, List.set_cons_zero, List.set_cons_succ]
    refine held_take 4 (.slice A6 k p6) rfl (by kernel_rfl) (by kernel_rfl) (by kernel_rfl) (fun _ _ _ h => h) (by rfl) (by intro w' hS; go_simp) (by assumption) ?_
    try simp only [Act.put, List.setIfInBounds_toArray, List.set_cons_zero, List.set_cons_succ]
    refine held_take 6 (.slice (some ⟨b, off, none⟩) sl W.sc) rfl (by kernel_rfl) (by kernel_rfl) (by kernel_rfl) (fun _ _ _ h => h) (by rfl) (by intro w' hS; go_simp) (by assumption) ?_
    try simp only [Act.put, List.setIfInBounds_toArray, List.set_cons_zero, List.set_cons_succ]
    refine held_take 9 (.slice (some ⟨b, off, none⟩) sl W.sc) rfl (by kernel_rfl) (by kernel_rfl) (by kernel_rfl) (fun _ _ _ h => h) (by rfl) (by intro w' hS; go_simp) (by assumption) ?_
    try simp only [Act.put, List.setIfInBounds_toArray, List.set_cons_zero, List.set_cons_succ]
    refine held_take 10 (.pointer (some ⟨b, off, none⟩)) rfl (by kernel_rfl) (by kernel_rfl) (by kernel_rfl) (fun _ _ _ h => h) (by rfl) (by intro w' hS; go_simp) (by assumption) ?_
    try simp only [Act.put, List.setIfInBounds_toArray, List.set_cons_zero, List.set_cons_succ]
    refine held_take 11 (.int .i64 O) rfl (by kernel_rfl) (by kernel_rfl) (by kernel_rfl) (fun _ _ _ h => h) (by rfl) (by intro w' hS; go_simp) (by assumption) ?_
    try simp only [Act.put, List.setIfInBounds_toArray, List.set_cons_zero, List.set_cons_succ]
    refine held_call 3 (by kernel_rfl) rfl (by rfl) (fun K hK => ?_)
    go_simp
    refine (CO.out w2.drew (b2.out.trans (t1.out.mono b2.out.size))).mono ?_
    rintro e wq1 ⟨rfl, hb⟩
    have bq1 := Lib.hid (t1.out.trans ((hb).mono t1.out.size))
    go_wp2_with fail
    refine hK.out _ _ (SK.out _ bq1.out) (fun hHeld => ?_)
    try simp only [Act.put, List.setIfInBounds_toArray, List.set_cons_zero, List.set_cons_succ]
    refine held_call 5 (by kernel_rfl) rfl (by rfl) (fun K hK => ?_)
    go_simp
    refine (SN.out A6 p6 wq1 (I6.out.kept bq1.out)).mono ?_
    rintro e _ ⟨rfl, rfl⟩
    have bq2 := Lib.hid (bq1.out.trans ((Below.refl _ _).mono bq1.out.size))
    go_wp2_with fail
    refine hK.out _ _ (SK.out _ bq2.out) (fun hHeld => ?_)
    try simp only [Act.put, List.setIfInBounds_toArray, List.set_cons_zero, List.set_cons_succ]
    refine held_call 7 (by kernel_rfl) rfl (by rfl) (fun K hK => ?_)
    go_simp
    refine (SM.out _ (b2.out.trans (bq2.out.mono b2.out.size))).mono ?_
    rintro e _ ⟨rfl, rfl⟩
    have bq3 := Lib.hid (bq2.out.trans ((Below.refl _ _).mono bq2.out.size))
    go_wp2_with fail
    refine hK.out _ _ (SK.out _ bq3.out) (fun hHeld => ?_)
    try simp only [Act.put, List.setIfInBounds_toArray, List.set_cons_zero, List.set_cons_succ]
    refine held_take 8 (.int .i64 q) rfl (by kernel_rfl) (by kernel_rfl) (by kernel_rfl) (fun _ _ _ h => h) (by rfl) (by intro w' hS; go_simp) (by assumption) ?_
    try simp only [Act.put, List.setIfInBounds_toArray, List.set_cons_zero, List.set_cons_succ]
    refine held_take 12 (.int .i64 T) rfl (by kernel_rfl) (by kernel_rfl) (by kernel_rfl) (fun _ _ _ h => h) (by rfl) (by intro w' hS; go_simp) (by assumption) ?_
    try simp only [Act.put, List.setIfInBounds_toArray, List.set_cons_zero, List.set_cons_succ]
    refine held_take 13 (.int .i64 c) rfl (by kernel_rfl) (by kernel_rfl) (by kernel_rfl) (fun _ _ _ h => h) (by rfl) (by intro w' hS; go_simp) (by assumption) ?_
    try simp only [Act.put, List.setIfInBounds_toArray, List.set_cons_zero, List.set_cons_succ]
    refine held_take 14 (.bool true) rfl (by kernel_rfl) (by kernel_rfl) (by kernel_rfl) (fun _ _ _ h => h) (by rfl) (by intro w' hS; go_simp) (by assumption) ?_
    try simp only [Act.put, List.setIfInBounds_toArray, List.set_cons_zero, List.set_cons_succ]
    refine held_take 15 (.bool true) rfl (by kernel_rfl) (by kernel_rfl) (by kernel_rfl) (fun _ _ _ h => h) (by rfl) (by intro w' hS; go_simp) (by assumption) ?_
    try simp only [Act.put, List.setIfInBounds_toArray, List.set_cons_zero, List.set_cons_succ]
    refine held_call 16 (by kernel_rfl) rfl (by rfl) (fun K hK => ?_)
    go_simp
    refine (awake07_any _).mono ?_
    rintro e wq4 ⟨rfl, hb⟩
    have bq4 := Lib.hid (bq3.out.trans ((hb).mono bq3.out.size))
    go_wp2_with fail
    refine hK.out _ _ (SK.out _ bq4.out) (fun hHeld => ?_)
    try simp only [Act.put, List.setIfInBounds_toArray, List.set_cons_zero, List.set_cons_succ]
    refine held_take 17 (.bool true) rfl (by kernel_rfl) (by kernel_rfl) (by kernel_rfl) (fun _ _ _ h => h) (by rfl) (by intro w' hS; go_simp) (by assumption) ?_
    try simp only [Act.put, List.setIfInBounds_toArray, List.set_cons_zero, List.set_cons_succ]
    refine held_take 18 (.bool true) rfl (by kernel_rfl) (by kernel_rfl) (by kernel_rfl) (fun _ _ _ h => h) (by rfl) (by intro w' hS; go_simp) (by assumption) ?_
    try simp only [Act.put, List.setIfInBounds_toArray, List.set_cons_zero, List.set_cons_succ]
    refine wpAnyH_done (by kernel_rfl) ?_ _
    go_wp2_with fail
    go_ret
    exact ⟨rfl, b2.out.trans (bq4.out.mono b2.out.size)⟩
  · have d1 : decide ((200 : Int) < (N : Int)) = false := decide_eq_false (by omega)
    have d2 : decide ((200 : Int) < (M : Int)) = true := decide_eq_true (by have := hd1.out; omega)
    clear hN hd1
    go_enter Try.func6, Try.ntmps6
    go_wp2_with fail
    refine (FE.out w).mono ?_
    rintro e w1 ⟨rfl, rfl⟩
    go_wp2_with fail
    refine (awake07_any _).mono ?_
    rintro e w1 ⟨rfl, hb⟩
    have b1 := Lib.hid hb
    clear hb FE
    go_wp2_with fail
    refine (TO.out w1 b1.out).mono ?_
    rintro e w2 ⟨A6, p6, rfl, o6, hb⟩
    have b2 := Lib.hid (b1.out.trans (hb.mono b1.out.size))
    have I6 := Lib.hid (row_ints o6 hk9 hfo.out)
    clear hb TO o6
    go_wp2_with fail
    refine (SN.out A6 p6 w2 I6.out).mono ?_
    rintro e w3 ⟨rfl, rfl⟩
    go_wp2_with fail
    refine (SM.out _ b2.out).mono ?_
    rintro e w3 ⟨rfl, rfl⟩
    go_upto_region 7 with (fail)
    have SK := Lib.hid (fun w' (hb : Below w2.heap.size w2 w') => (show w'.cell? ⟨b, off, none⟩ = some (.int .i64 O) from F0.out w' (b2.out.trans (hb.mono b2.out.size))))
    have t1 := Lib.hid (show Below w2.heap.size w2 w2.drew from (Below.refl _ _).drew)
    refine wp_region_held_drew (S := fun w' => w'.cell? ⟨b, off, none⟩ = some (.int .i64 O)) (by kernel_rfl) (SK.out _ t1.out) (fun hHeld => ?_)
    refine held_take 0 (.slice (some ⟨b, off, none⟩) sl W.sc) rfl (by kernel_rfl) (by kernel_rfl) (by kernel_rfl) (fun _ _ _ h => h) (by rfl) (by intro w' hS; go_simp) (by assumption) ?_
    try simp only [Act.put, List.setIfInBounds_toArray, List.set_cons_zero, List.set_cons_succ]
    refine held_take 1 (.slice x.sa x.sl x.sc) rfl (by kernel_rfl) (by kernel_rfl) (by kernel_rfl) (fun _ _ _ h => h) (by rfl) (by intro w' hS; go_simp) (by assumption) ?_
    try simp only [Act.put, List.setIfInBounds_toArray, List.set_cons_zero, List.set_cons_succ]
    refine held_take 2 (.int .i64 s) rfl (by kernel_rfl) (by kernel_rfl) (by kernel_rfl) (fun _ _ _ h => h) (by rfl) (by intro w' hS; go_simp) (by assumption) ?_
    try simp only [Act.put, List.setIfInBounds_toArray, List.set_cons_zero, List.set_cons_succ]
    refine held_take 4 (.slice A6 k p6) rfl (by kernel_rfl) (by kernel_rfl) (by kernel_rfl) (fun _ _ _ h => h) (by rfl) (by intro w' hS; go_simp) (by assumption) ?_
    try simp only [Act.put, List.setIfInBounds_toArray, List.set_cons_zero, List.set_cons_succ]
    refine held_take 6 (.slice (some ⟨b, off, none⟩) sl W.sc) rfl (by kernel_rfl) (by kernel_rfl) (by kernel_rfl) (fun _ _ _ h => h) (by rfl) (by intro w' hS; go_simp) (by assumption) ?_
    try simp only [Act.put, List.setIfInBounds_toArray, List.set_cons_zero, List.set_cons_succ]
    refine held_take 9 (.slice (some ⟨b, off, none⟩) sl W.sc) rfl (by kernel_rfl) (by kernel_rfl) (by kernel_rfl) (fun _ _ _ h => h) (by rfl) (by intro w' hS; go_simp) (by assumption) ?_
    try simp only [Act.put, List.setIfInBounds_toArray, List.set_cons_zero, List.set_cons_succ]
    refine held_take 10 (.pointer (some ⟨b, off, none⟩)) rfl (by kernel_rfl) (by kernel_rfl) (by kernel_rfl) (fun _ _ _ h => h) (by rfl) (by intro w' hS; go_simp) (by assumption) ?_
    try simp only [Act.put, List.setIfInBounds_toArray, List.set_cons_zero, List.set_cons_succ]
    refine held_take 11 (.int .i64 O) rfl (by kernel_rfl) (by kernel_rfl) (by kernel_rfl) (fun _ _ _ h => h) (by rfl) (by intro w' hS; go_simp) (by assumption) ?_
    try simp only [Act.put, List.setIfInBounds_toArray, List.set_cons_zero, List.set_cons_succ]
    refine held_call 3 (by kernel_rfl) rfl (by rfl) (fun K hK => ?_)
    go_simp
    refine (CO.out w2.drew (b2.out.trans (t1.out.mono b2.out.size))).mono ?_
    rintro e wq1 ⟨rfl, hb⟩
    have bq1 := Lib.hid (t1.out.trans ((hb).mono t1.out.size))
    go_wp2_with fail
    refine hK.out _ _ (SK.out _ bq1.out) (fun hHeld => ?_)
    try simp only [Act.put, List.setIfInBounds_toArray, List.set_cons_zero, List.set_cons_succ]
    refine held_call 5 (by kernel_rfl) rfl (by rfl) (fun K hK => ?_)
    go_simp
    refine (SN.out A6 p6 wq1 (I6.out.kept bq1.out)).mono ?_
    rintro e _ ⟨rfl, rfl⟩
    have bq2 := Lib.hid (bq1.out.trans ((Below.refl _ _).mono bq1.out.size))
    go_wp2_with fail
    refine hK.out _ _ (SK.out _ bq2.out) (fun hHeld => ?_)
    try simp only [Act.put, List.setIfInBounds_toArray, List.set_cons_zero, List.set_cons_succ]
    refine held_call 7 (by kernel_rfl) rfl (by rfl) (fun K hK => ?_)
    go_simp
    refine (SM.out _ (b2.out.trans (bq2.out.mono b2.out.size))).mono ?_
    rintro e _ ⟨rfl, rfl⟩
    have bq3 := Lib.hid (bq2.out.trans ((Below.refl _ _).mono bq2.out.size))
    go_wp2_with fail
    refine hK.out _ _ (SK.out _ bq3.out) (fun hHeld => ?_)
    try simp only [Act.put, List.setIfInBounds_toArray, List.set_cons_zero, List.set_cons_succ]
    refine held_take 8 (.int .i64 q) rfl (by kernel_rfl) (by kernel_rfl) (by kernel_rfl) (fun _ _ _ h => h) (by rfl) (by intro w' hS; go_simp) (by assumption) ?_
    try simp only [Act.put, List.setIfInBounds_toArray, List.set_cons_zero, List.set_cons_succ]
    refine held_take 12 (.int .i64 T) rfl (by kernel_rfl) (by kernel_rfl) (by kernel_rfl) (fun _ _ _ h => h) (by rfl) (by intro w' hS; go_simp) (by assumption) ?_
    try simp only [Act.put, List.setIfInBounds_toArray, List.set_cons_zero, List.set_cons_succ]
    refine held_take 13 (.int .i64 c) rfl (by kernel_rfl) (by kernel_rfl) (by kernel_rfl) (fun _ _ _ h => h) (by rfl) (by intro w' hS; go_simp) (by assumption) ?_
    try simp only [Act.put, List.setIfInBounds_toArray, List.set_cons_zero, List.set_cons_succ]
    refine held_take 14 (.bool true) rfl (by kernel_rfl) (by kernel_rfl) (by kernel_rfl) (fun _ _ _ h => h) (by rfl) (by intro w' hS; go_simp) (by assumption) ?_
    try simp only [Act.put, List.setIfInBounds_toArray, List.set_cons_zero, List.set_cons_succ]
    refine held_take 15 (.bool true) rfl (by kernel_rfl) (by kernel_rfl) (by kernel_rfl) (fun _ _ _ h => h) (by rfl) (by intro w' hS; go_simp) (by assumption) ?_
    try simp only [Act.put, List.setIfInBounds_toArray, List.set_cons_zero, List.set_cons_succ]
    refine held_call 16 (by kernel_rfl) rfl (by rfl) (fun K hK => ?_)
    go_simp
    refine (awake07_any _).mono ?_
    rintro e wq4 ⟨rfl, hb⟩
    have bq4 := Lib.hid (bq3.out.trans ((hb).mono bq3.out.size))
    go_wp2_with fail
    refine hK.out _ _ (SK.out _ bq4.out) (fun hHeld => ?_)
    try simp only [Act.put, List.setIfInBounds_toArray, List.set_cons_zero, List.set_cons_succ]
    refine held_take 17 (.bool true) rfl (by kernel_rfl) (by kernel_rfl) (by kernel_rfl) (fun _ _ _ h => h) (by rfl) (by intro w' hS; go_simp) (by assumption) ?_
    try simp only [Act.put, List.setIfInBounds_toArray, List.set_cons_zero, List.set_cons_succ]
    refine held_take 18 (.bool true) rfl (by kernel_rfl) (by kernel_rfl) (by kernel_rfl) (fun _ _ _ h => h) (by rfl) (by intro w' hS; go_simp) (by assumption) ?_
    try simp only [Act.put, List.setIfInBounds_toArray, List.set_cons_zero, List.set_cons_succ]
    refine wpAnyH_done (by kernel_rfl) ?_ _
    go_wp2_with fail
    go_ret
    exact ⟨rfl, b2.out.trans (bq4.out.mono b2.out.size)⟩

set_option maxRecDepth 100000 in
set_option maxHeartbeats 8000000 in
theorem convTouches_all (W x : TV) (s : Int) (w : World) (hW : W.At w ∧ W.CapS) (hx : x.At w ∧ x.CapS) (hs1 : -9223372036854775808 ≤ s) (hs2 : s ≤ 9223372036854775807) (cf : fewC W.sl x.sl = true) (h0 : toldE W.ss x.ss s = 0) (N M O : Nat) (e1 : prodI (outS W.ss x.ss s) = N) (e2 : prodI W.ss = M) (e3 : W.ss.getD 0 0 = O) (e4 : 1 ≤ O) (e5 : N ≤ 65536) (e6 : M ≤ 65536) (e7 : (touchL W.ss x.ss s).length = N * M / O) (hg : N ≤ 200 ∧ M ≤ 200) :
    Calls Try.prog 6 #[.slice W.sa W.sl W.sc, .slice x.sa x.sl x.sc, .int .i64 s] w fun e w' => e = .returned (.bool true) ∧ Below w.heap.size w w' := by
  have FE := fun w1 => few_any W.sa W.sl W.sc x.sa x.sl x.sc w1
  rw [cf] at FE
  have TO := fun w1 (hb : Below w.heap.size w w1) => (told_any W x s w1 (hW.1.kept hb) (hx.1.kept hb)).mono fun e w' h => h.1 h0
  have CO := fun w1 (hb : Below w.heap.size w w1) => count_any W x s 1048576 w1 (hW.1.kept hb) (hx.1.kept hb) hW.2 hx.2 hs1 hs2 (by omega) (by omega)
  rw [e7] at CO
  obtain ⟨q, hq⟩ : ∃ q, N * M = q := ⟨_, rfl⟩
  have hq2 : q ≤ 4294967296 := by rw [← hq]; exact Nat.le_trans (Nat.mul_le_mul e5 e6) (by decide)
  have hmul := wmul hq (by omega)
  rw [hq] at CO
  obtain ⟨T, hT⟩ : ∃ T, q / O = T := ⟨_, rfl⟩
  have hT2 : T ≤ 4294967296 := by rw [← hT]; exact Nat.le_trans (Nat.div_le_self _ _) hq2
  have hquo : Int.tdiv (q : Int) (O : Int) = (T : Int) := by rw [Int.tdiv_eq_ediv_of_nonneg (by omega), ← hT]; rfl
  have hwT : IntKind.i64.wrap (T : Int) = (T : Int) := IntWalk.i64_in _ (by omega)
  rw [hT] at CO
  have hN200 := hg.1
  have hM200 := hg.2
  have hTs : min 1048576 T = T := by
    have : q ≤ 200 * 200 := by rw [← hq]; exact Nat.mul_le_mul hg.1 hg.2
    have := Nat.div_le_self q O
    omega
  rw [hTs] at CO
  have hO0 : ¬ O = 0 := by omega
  have SN := fun A p w1 (hI : IntsAt w1 A x.ss.length (outS W.ss x.ss s)) => refsize_any A x.ss.length p (outS W.ss x.ss s) w1 hI (told_parts h0).2.2
  have SM := fun w1 (hb : Below w.heap.size w w1) => refsize_any W.sa W.sl W.sc W.ss w1 (hW.1.1.kept hb) (formOk_parts (told_parts h0).1).1
  rw [e1] at SN
  rw [e2] at SM
  have hk9 : x.ss.length ≤ 9223372036854775807 := by have := hx.1.1.1; have := hx.1.2.2.1; omega
  have hfo := outS_fit h0
  have hsl : 0 < W.sl := by have := hW.1.1.1; have := (rightS_parts (formOk_parts (told_parts h0).1).1).1; omega
  obtain ⟨b, off, hba, hc0⟩ := ints_cell hW.1.1 hsl
  have F0 := fun w1 (hb : Below w.heap.size w w1) => cell_later hb (hc0 0 hsl)
  rw [e3] at F0
  simp only [Nat.add_zero] at F0
  have hne : ¬ W.sl = 0 := by omega
  obtain ⟨os, hos⟩ : ∃ os, outS W.ss x.ss s = os := ⟨_, rfl⟩
  obtain ⟨k, hk⟩ : ∃ k, x.ss.length = k := ⟨_, rfl⟩
  obtain ⟨sl, hsle⟩ : ∃ k, W.sl = k := ⟨_, rfl⟩
  rw [hos, hk] at TO SN
  rw [hos] at hfo
  rw [hk] at hk9
  rw [hba, hsle] at FE TO CO SM
  rw [hsle] at hne
  rw [hba, hsle]
  replace FE := Lib.hid FE
  replace TO := Lib.hid TO
  replace CO := Lib.hid CO
  replace SN := Lib.hid SN
  replace SM := Lib.hid SM
  replace F0 := Lib.hid F0
  replace hfo := Lib.hid hfo
  clear hos hk hsle hba hc0 hsl cf h0 e1 e2 e3 e4 e5 e6 e7 hq hT hq2 hT2 hg hW hx hs1 hs2 hTs
  have d1 : decide ((200 : Int) < (N : Int)) = false := decide_eq_false (by omega)
  have d2 : decide ((200 : Int) < (M : Int)) = false := decide_eq_false (by omega)
  clear hN200 hM200
  go_enter Try.func6, Try.ntmps6
  go_wp2_with fail
  refine (FE.out w).mono ?_
  rintro e w1 ⟨rfl, rfl⟩
  go_wp2_with fail
  refine (awake07_any _).mono ?_
  rintro e w1 ⟨rfl, hb⟩
  have b1 := Lib.hid hb
  clear hb FE
  go_wp2_with fail
  refine (TO.out w1 b1.out).mono ?_
  rintro e w2 ⟨A6, p6, rfl, o6, hb⟩
  have b2 := Lib.hid (b1.out.trans (hb.mono b1.out.size))
  have I6 := Lib.hid (row_ints o6 hk9 hfo.out)
  clear hb TO o6
  go_wp2_with fail
  refine (SN.out A6 p6 w2 I6.out).mono ?_
  rintro e w3 ⟨rfl, rfl⟩
  go_wp2_with fail
  refine (SM.out _ b2.out).mono ?_
  rintro e w3 ⟨rfl, rfl⟩
  go_upto_region 8 with (fail)
  have SK := Lib.hid (fun w' (hb : Below w2.heap.size w2 w') => (show w'.cell? ⟨b, off, none⟩ = some (.int .i64 O) from F0.out w' (b2.out.trans (hb.mono b2.out.size))))
  have t1 := Lib.hid (show Below w2.heap.size w2 w2.drew from (Below.refl _ _).drew)
  refine wp_region_held_drew (S := fun w' => w'.cell? ⟨b, off, none⟩ = some (.int .i64 O)) (by kernel_rfl) (SK.out _ t1.out) (fun hHeld => ?_)
  refine held_take 0 (.slice (some ⟨b, off, none⟩) sl W.sc) rfl (by kernel_rfl) (by kernel_rfl) (by kernel_rfl) (fun _ _ _ h => h) (by rfl) (by intro w' hS; go_simp) (by assumption) ?_
  try simp only [Act.put, List.setIfInBounds_toArray, List.set_cons_zero, List.set_cons_succ]
  refine held_take 1 (.slice x.sa x.sl x.sc) rfl (by kernel_rfl) (by kernel_rfl) (by kernel_rfl) (fun _ _ _ h => h) (by rfl) (by intro w' hS; go_simp) (by assumption) ?_
  try simp only [Act.put, List.setIfInBounds_toArray, List.set_cons_zero, List.set_cons_succ]
  refine held_take 2 (.int .i64 s) rfl (by kernel_rfl) (by kernel_rfl) (by kernel_rfl) (fun _ _ _ h => h) (by rfl) (by intro w' hS; go_simp) (by assumption) ?_
  try simp only [Act.put, List.setIfInBounds_toArray, List.set_cons_zero, List.set_cons_succ]
  refine held_take 4 (.slice A6 k p6) rfl (by kernel_rfl) (by kernel_rfl) (by kernel_rfl) (fun _ _ _ h => h) (by rfl) (by intro w' hS; go_simp) (by assumption) ?_
  try simp only [Act.put, List.setIfInBounds_toArray, List.set_cons_zero, List.set_cons_succ]
  refine held_take 6 (.slice (some ⟨b, off, none⟩) sl W.sc) rfl (by kernel_rfl) (by kernel_rfl) (by kernel_rfl) (fun _ _ _ h => h) (by rfl) (by intro w' hS; go_simp) (by assumption) ?_
  try simp only [Act.put, List.setIfInBounds_toArray, List.set_cons_zero, List.set_cons_succ]
  refine held_take 9 (.slice (some ⟨b, off, none⟩) sl W.sc) rfl (by kernel_rfl) (by kernel_rfl) (by kernel_rfl) (fun _ _ _ h => h) (by rfl) (by intro w' hS; go_simp) (by assumption) ?_
  try simp only [Act.put, List.setIfInBounds_toArray, List.set_cons_zero, List.set_cons_succ]
  refine held_take 10 (.pointer (some ⟨b, off, none⟩)) rfl (by kernel_rfl) (by kernel_rfl) (by kernel_rfl) (fun _ _ _ h => h) (by rfl) (by intro w' hS; go_simp) (by assumption) ?_
  try simp only [Act.put, List.setIfInBounds_toArray, List.set_cons_zero, List.set_cons_succ]
  refine held_take 11 (.int .i64 O) rfl (by kernel_rfl) (by kernel_rfl) (by kernel_rfl) (fun _ _ _ h => h) (by rfl) (by intro w' hS; go_simp) (by assumption) ?_
  try simp only [Act.put, List.setIfInBounds_toArray, List.set_cons_zero, List.set_cons_succ]
  refine held_call 3 (by kernel_rfl) rfl (by rfl) (fun K hK => ?_)
  go_simp
  refine (CO.out w2.drew (b2.out.trans (t1.out.mono b2.out.size))).mono ?_
  rintro e wq1 ⟨rfl, hb⟩
  have bq1 := Lib.hid (t1.out.trans ((hb).mono t1.out.size))
  go_wp2_with fail
  refine hK.out _ _ (SK.out _ bq1.out) (fun hHeld => ?_)
  try simp only [Act.put, List.setIfInBounds_toArray, List.set_cons_zero, List.set_cons_succ]
  refine held_call 5 (by kernel_rfl) rfl (by rfl) (fun K hK => ?_)
  go_simp
  refine (SN.out A6 p6 wq1 (I6.out.kept bq1.out)).mono ?_
  rintro e _ ⟨rfl, rfl⟩
  have bq2 := Lib.hid (bq1.out.trans ((Below.refl _ _).mono bq1.out.size))
  go_wp2_with fail
  refine hK.out _ _ (SK.out _ bq2.out) (fun hHeld => ?_)
  try simp only [Act.put, List.setIfInBounds_toArray, List.set_cons_zero, List.set_cons_succ]
  refine held_call 7 (by kernel_rfl) rfl (by rfl) (fun K hK => ?_)
  go_simp
  refine (SM.out _ (b2.out.trans (bq2.out.mono b2.out.size))).mono ?_
  rintro e _ ⟨rfl, rfl⟩
  have bq3 := Lib.hid (bq2.out.trans ((Below.refl _ _).mono bq2.out.size))
  go_wp2_with fail
  refine hK.out _ _ (SK.out _ bq3.out) (fun hHeld => ?_)
  try simp only [Act.put, List.setIfInBounds_toArray, List.set_cons_zero, List.set_cons_succ]
  refine held_take 8 (.int .i64 q) rfl (by kernel_rfl) (by kernel_rfl) (by kernel_rfl) (fun _ _ _ h => h) (by rfl) (by intro w' hS; go_simp) (by assumption) ?_
  try simp only [Act.put, List.setIfInBounds_toArray, List.set_cons_zero, List.set_cons_succ]
  refine held_take 12 (.int .i64 T) rfl (by kernel_rfl) (by kernel_rfl) (by kernel_rfl) (fun _ _ _ h => h) (by rfl) (by intro w' hS; go_simp) (by assumption) ?_
  try simp only [Act.put, List.setIfInBounds_toArray, List.set_cons_zero, List.set_cons_succ]
  refine held_take 13 (.bool true) rfl (by kernel_rfl) (by kernel_rfl) (by kernel_rfl) (fun _ _ _ h => h) (by rfl) (by intro w' hS; go_simp) (by assumption) ?_
  try simp only [Act.put, List.setIfInBounds_toArray, List.set_cons_zero, List.set_cons_succ]
  refine held_take 14 (.bool true) rfl (by kernel_rfl) (by kernel_rfl) (by kernel_rfl) (fun _ _ _ h => h) (by rfl) (by intro w' hS; go_simp) (by assumption) ?_
  try simp only [Act.put, List.setIfInBounds_toArray, List.set_cons_zero, List.set_cons_succ]
  refine held_call 15 (by kernel_rfl) rfl (by rfl) (fun K hK => ?_)
  go_simp
  refine (awake07_any _).mono ?_
  rintro e wq4 ⟨rfl, hb⟩
  have bq4 := Lib.hid (bq3.out.trans ((hb).mono bq3.out.size))
  go_wp2_with fail
  refine hK.out _ _ (SK.out _ bq4.out) (fun hHeld => ?_)
  try simp only [Act.put, List.setIfInBounds_toArray, List.set_cons_zero, List.set_cons_succ]
  refine held_take 16 (.bool true) rfl (by kernel_rfl) (by kernel_rfl) (by kernel_rfl) (fun _ _ _ h => h) (by rfl) (by intro w' hS; go_simp) (by assumption) ?_
  try simp only [Act.put, List.setIfInBounds_toArray, List.set_cons_zero, List.set_cons_succ]
  refine held_take 17 (.bool true) rfl (by kernel_rfl) (by kernel_rfl) (by kernel_rfl) (fun _ _ _ h => h) (by rfl) (by intro w' hS; go_simp) (by assumption) ?_
  try simp only [Act.put, List.setIfInBounds_toArray, List.set_cons_zero, List.set_cons_succ]
  refine wpAnyH_done (by kernel_rfl) ?_ _
  go_wp2_with fail
  go_ret
  exact ⟨rfl, b2.out.trans (bq4.out.mono b2.out.size)⟩

theorem convTouches_walk (W x : TV) (s : Int) (w : World) (hW : W.At w ∧ W.CapS) (hx : x.At w ∧ x.CapS) (hs1 : -9223372036854775808 ≤ s) (hs2 : s ≤ 9223372036854775807) :
    Calls Try.prog 6 #[.slice W.sa W.sl W.sc, .slice x.sa x.sl x.sc, .int .i64 s] w fun e w' => e = .returned (.bool true) ∧ Below w.heap.size w w' := by
  cases cf : fewC W.sl x.sl
  · exact convTouches_few W x s w cf
  by_cases h0 : toldE W.ss x.ss s = 0
  · obtain ⟨N, M, O, e1, e2, e3, e4, e5, e6, e7⟩ := touch_count h0
    by_cases hg : N ≤ 200 ∧ M ≤ 200
    · exact convTouches_all W x s w hW hx hs1 hs2 cf h0 N M O e1 e2 e3 e4 e5 e6 e7 hg
    · exact convTouches_big W x s w hW hx hs1 hs2 cf h0 N M O e1 e2 e3 e4 e5 e6 e7 (by omega)
  · exact convTouches_no W x s w hW hx hs1 hs2 cf h0
end Go.Proofs.Ytapelgjnnccfoaa

