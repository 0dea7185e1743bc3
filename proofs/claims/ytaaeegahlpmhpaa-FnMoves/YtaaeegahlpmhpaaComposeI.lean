/-
  The walk of the program's Compose.
-/
import Derived.Test.YtaaeegahlpmhpaaComposeS
import Derived.Test.YtaaeegahlpmhpaaApplyI
namespace Go.Proofs.Ytaaeegahlpmhpaa
open Go.RowKit

set_option maxHeartbeats 1000000 in
set_option maxRecDepth 100000 in
theorem implCompose_no (a b c d e f g h i j k l : Int) (hno : (matOkB a b c d e f && matOkB g h i j k l) = false) (w : World) :
    Calls Try.prog 13 #[.agg #[.int .i64 a, .int .i64 b, .int .i64 c, .int .i64 d, .int .i64 e, .int .i64 f], .agg #[.int .i64 g, .int .i64 h, .int .i64 i, .int .i64 j, .int .i64 k, .int .i64 l]] w fun r w' => r = .returned (.tuple #[.agg #[.int .i64 0, .int .i64 0, .int .i64 0, .int .i64 0, .int .i64 0, .int .i64 0], .bool false]) ∧ Below w.heap.size w w' := by
  have HM := hide (implMatOk_any a b c d e f)
  have HP := hide (implMatOk_any g h i j k l)
  generalize matOkB a b c d e f = pm at HM hno
  generalize matOkB g h i j k l = pp at HP hno
  go_enter Try.func13, Try.ntmps13
  go_wp2_with fail
  obtain ⟨W, hW⟩ : ∃ W, W = ((w.alloc (.cells #[.int .i64 a, .int .i64 b, .int .i64 c, .int .i64 d, .int .i64 e, .int .i64 f] 25)).alloc (.cells #[.int .i64 g, .int .i64 h, .int .i64 i, .int .i64 j, .int .i64 k, .int .i64 l] 25)).alloc (.cells #[.int .i64 0, .int .i64 0, .int .i64 0, .int .i64 0, .int .i64 0, .int .i64 0] 25) := ⟨_, rfl⟩
  have A : W.heap[w.heap.size]? = some (.cells #[.int .i64 a, .int .i64 b, .int .i64 c, .int .i64 d, .int .i64 e, .int .i64 f] 25 (0, 0)) := by rw [hW]; exact al3_0 _ _ _ _
  have P : W.heap[w.heap.size + 1]? = some (.cells #[.int .i64 g, .int .i64 h, .int .i64 i, .int .i64 j, .int .i64 k, .int .i64 l] 25 (0, 0)) := by rw [hW]; exact al3_1 _ _ _ _
  have R : W.heap[w.heap.size + 1 + 1]? = some (.cells #[.int .i64 0, .int .i64 0, .int .i64 0, .int .i64 0, .int .i64 0, .int .i64 0] 25 (0, 0)) := by rw [hW]; exact al3_2 _ _ _ _
  have HB := hide (show Below w.heap.size w W by rw [hW]; exact al3_below _ _ _ _)
  rw [← hW]
  clear hW
  obtain ⟨m0, m1, m2, m3, m4, m5⟩ := row6 A
  go_wp2_with fail
  refine (unhide HM _).mono ?_
  rintro r w1 ⟨rfl, hb⟩
  clear m0 m1 m2 m3 m4 m5
  replace A := (hb.block _ (heap_lt A)).trans A
  replace P := (hb.block _ (heap_lt P)).trans P
  replace R := (hb.block _ (heap_lt R)).trans R
  replace HB := hide (below_two (unhide HB) hb)
  clear hb
  cases pm
  · obtain ⟨r0, r1, r2, r3, r4, r5⟩ := row6 R
    obtain ⟨f0, f1, f2, f3, f4, f5⟩ := free6 R
    clear R
    go_wp2_with fail
    obtain ⟨V, hV⟩ : ∃ V, V = ((((((w1.setCell ⟨w.heap.size + 1 + 1, 0, none⟩ (.int .i64 0)).setCell ⟨w.heap.size + 1 + 1, 1, none⟩ (.int .i64 0)).setCell ⟨w.heap.size + 1 + 1, 2, none⟩ (.int .i64 0)).setCell ⟨w.heap.size + 1 + 1, 3, none⟩ (.int .i64 0)).setCell ⟨w.heap.size + 1 + 1, 4, none⟩ (.int .i64 0)).setCell ⟨w.heap.size + 1 + 1, 5, none⟩ (.int .i64 0)) := ⟨_, rfl⟩
    rw [← hV]
    have q0 : V.cell? ⟨w.heap.size + 1 + 1, 0, none⟩ = some (.int .i64 0) := by rw [hV]; with_reducible exact put6_0 r0 _ _ _ _ _ _
    have q1 : V.cell? ⟨w.heap.size + 1 + 1, 1, none⟩ = some (.int .i64 0) := by rw [hV]; with_reducible exact put6_1 r1 _ _ _ _ _ _
    have q2 : V.cell? ⟨w.heap.size + 1 + 1, 2, none⟩ = some (.int .i64 0) := by rw [hV]; with_reducible exact put6_2 r2 _ _ _ _ _ _
    have q3 : V.cell? ⟨w.heap.size + 1 + 1, 3, none⟩ = some (.int .i64 0) := by rw [hV]; with_reducible exact put6_3 r3 _ _ _ _ _ _
    have q4 : V.cell? ⟨w.heap.size + 1 + 1, 4, none⟩ = some (.int .i64 0) := by rw [hV]; with_reducible exact put6_4 r4 _ _ _ _ _ _
    have q5 : V.cell? ⟨w.heap.size + 1 + 1, 5, none⟩ = some (.int .i64 0) := by rw [hV]; with_reducible exact put6_5 r5 _ _ _ _ _ _
    have HV := hide (show Below w.heap.size w V by rw [hV]; exact below_put6 (unhide HB) (by omega) _ _ _ _ _ _)
    clear hV r0 r1 r2 r3 r4 r5 f0 f1 f2 f3 f4 f5
    refine bodyPost_ret (v := .tuple #[.agg #[.int .i64 0, .int .i64 0, .int .i64 0, .int .i64 0, .int .i64 0, .int .i64 0], .bool false]) (by simp [results, Try.results13, go_sem, q0, q1, q2, q3, q4, q5]) rfl ⟨rfl, unhide HV⟩
  obtain rfl : pp = false := by simpa using hno
  obtain ⟨p0, p1, p2, p3, p4, p5⟩ := row6 P
  go_wp2_with fail
  refine (unhide HP _).mono ?_
  rintro r w2 ⟨rfl, hb⟩
  clear p0 p1 p2 p3 p4 p5
  replace A := (hb.block _ (heap_lt A)).trans A
  replace P := (hb.block _ (heap_lt P)).trans P
  replace R := (hb.block _ (heap_lt R)).trans R
  replace HB := hide (below_two (unhide HB) hb)
  clear hb
  obtain ⟨r0, r1, r2, r3, r4, r5⟩ := row6 R
  obtain ⟨f0, f1, f2, f3, f4, f5⟩ := free6 R
  clear R
  go_wp2_with fail
  obtain ⟨V, hV⟩ : ∃ V, V = ((((((w2.setCell ⟨w.heap.size + 1 + 1, 0, none⟩ (.int .i64 0)).setCell ⟨w.heap.size + 1 + 1, 1, none⟩ (.int .i64 0)).setCell ⟨w.heap.size + 1 + 1, 2, none⟩ (.int .i64 0)).setCell ⟨w.heap.size + 1 + 1, 3, none⟩ (.int .i64 0)).setCell ⟨w.heap.size + 1 + 1, 4, none⟩ (.int .i64 0)).setCell ⟨w.heap.size + 1 + 1, 5, none⟩ (.int .i64 0)) := ⟨_, rfl⟩
  rw [← hV]
  have q0 : V.cell? ⟨w.heap.size + 1 + 1, 0, none⟩ = some (.int .i64 0) := by rw [hV]; with_reducible exact put6_0 r0 _ _ _ _ _ _
  have q1 : V.cell? ⟨w.heap.size + 1 + 1, 1, none⟩ = some (.int .i64 0) := by rw [hV]; with_reducible exact put6_1 r1 _ _ _ _ _ _
  have q2 : V.cell? ⟨w.heap.size + 1 + 1, 2, none⟩ = some (.int .i64 0) := by rw [hV]; with_reducible exact put6_2 r2 _ _ _ _ _ _
  have q3 : V.cell? ⟨w.heap.size + 1 + 1, 3, none⟩ = some (.int .i64 0) := by rw [hV]; with_reducible exact put6_3 r3 _ _ _ _ _ _
  have q4 : V.cell? ⟨w.heap.size + 1 + 1, 4, none⟩ = some (.int .i64 0) := by rw [hV]; with_reducible exact put6_4 r4 _ _ _ _ _ _
  have q5 : V.cell? ⟨w.heap.size + 1 + 1, 5, none⟩ = some (.int .i64 0) := by rw [hV]; with_reducible exact put6_5 r5 _ _ _ _ _ _
  have HV := hide (show Below w.heap.size w V by rw [hV]; exact below_put6 (unhide HB) (by omega) _ _ _ _ _ _)
  clear hV r0 r1 r2 r3 r4 r5 f0 f1 f2 f3 f4 f5
  refine bodyPost_ret (v := .tuple #[.agg #[.int .i64 0, .int .i64 0, .int .i64 0, .int .i64 0, .int .i64 0, .int .i64 0], .bool false]) (by simp [results, Try.results13, go_sem, q0, q1, q2, q3, q4, q5]) rfl ⟨rfl, unhide HV⟩

set_option maxHeartbeats 4000000 in
set_option maxRecDepth 100000 in
theorem implCompose_yes (a b c d e f g h i j k l : Int) (hm : matOkB a b c d e f = true) (hn : matOkB g h i j k l = true) (w : World) :
    Calls Try.prog 13 #[.agg #[.int .i64 a, .int .i64 b, .int .i64 c, .int .i64 d, .int .i64 e, .int .i64 f], .agg #[.int .i64 g, .int .i64 h, .int .i64 i, .int .i64 j, .int .i64 k, .int .i64 l]] w fun r w' => r = .returned (compV a b c d e f g h i j k l) ∧ Below w.heap.size w w' := by
  have HM := hide (implMatOk_any a b c d e f)
  have HP := hide (implMatOk_any g h i j k l)
  rw [hm] at HM
  rw [hn] at HP
  obtain ⟨⟨a1, a2⟩, ⟨b1, b2⟩, ⟨c1, c2⟩, ⟨d1, d2⟩, ⟨e1, e2⟩, ⟨f1, f2⟩⟩ := mat_bd hm
  obtain ⟨⟨g1, g2⟩, ⟨h1, h2⟩, ⟨i1, i2⟩, ⟨j1, j2⟩, ⟨k1, k2⟩, ⟨l1, l2⟩⟩ := mat_bd hn
  clear hm hn
  have T1 := hide (implTurn_any a b c d e f g h a1 a2 b1 b2 c1 c2 d1 d2 (by omega) (by omega) (by omega) (by omega))
  have T2 := hide (implTurn_any a b c d e f i j a1 a2 b1 b2 c1 c2 d1 d2 (by omega) (by omega) (by omega) (by omega))
  have T3 := hide (implTurn_any a b c d e f k l a1 a2 b1 b2 c1 c2 d1 d2 (by omega) (by omega) (by omega) (by omega))
  obtain ⟨qE1, qE2⟩ := cross_bd a1 a2 c1 c2 k1 k2 l1 l2
  obtain ⟨qF1, qF2⟩ := cross_bd b1 b2 d1 d2 k1 k2 l1 l2
  have HO := hide (implMatOk_any (crossI a g c h) (crossI b g d h) (crossI a i c j) (crossI b i d j) (crossI a k c l + e) (crossI b k d l + f))
  have HV : Hid (∀ p, matOkB (crossI a g c h) (crossI b g d h) (crossI a i c j) (crossI b i d j) (crossI a k c l + e) (crossI b k d l + f) = p → compV a b c d e f g h i j k l = bif p then .tuple #[.agg #[.int .i64 (crossI a g c h), .int .i64 (crossI b g d h), .int .i64 (crossI a i c j), .int .i64 (crossI b i d j), .int .i64 (crossI a k c l + e), .int .i64 (crossI b k d l + f)], .bool true] else .tuple #[.agg #[.int .i64 0, .int .i64 0, .int .i64 0, .int .i64 0, .int .i64 0, .int .i64 0], .bool false]) := fun p hp => by unfold compV; rw [hp]
  generalize crossI a g c h = qA at T1 HO HV
  generalize crossI b g d h = qB at T1 HO HV
  generalize crossI a i c j = qC at T2 HO HV
  generalize crossI b i d j = qD at T2 HO HV
  generalize crossI a k c l = qE at T3 HO HV qE1 qE2
  generalize crossI b k d l = qF at T3 HO HV qF1 qF2
  generalize matOkB qA qB qC qD (qE + e) (qF + f) = po at HO HV
  have HV' := hide (unhide HV po rfl)
  clear HV
  have u4 : IntKind.i64.wrap (qE + e) = qE + e := IntWalk.i64_in _ (by omega)
  have u8 : IntKind.i64.wrap (qF + f) = qF + f := IntWalk.i64_in _ (by omega)
  clear a1 a2 b1 b2 c1 c2 d1 d2 e1 e2 f1 f2 g1 g2 h1 h2 i1 i2 j1 j2 k1 k2 l1 l2 qE1 qE2 qF1 qF2
  go_enter Try.func13, Try.ntmps13
  go_wp2_with fail
  obtain ⟨W, hW⟩ : ∃ W, W = ((w.alloc (.cells #[.int .i64 a, .int .i64 b, .int .i64 c, .int .i64 d, .int .i64 e, .int .i64 f] 25)).alloc (.cells #[.int .i64 g, .int .i64 h, .int .i64 i, .int .i64 j, .int .i64 k, .int .i64 l] 25)).alloc (.cells #[.int .i64 0, .int .i64 0, .int .i64 0, .int .i64 0, .int .i64 0, .int .i64 0] 25) := ⟨_, rfl⟩
  have A : W.heap[w.heap.size]? = some (.cells #[.int .i64 a, .int .i64 b, .int .i64 c, .int .i64 d, .int .i64 e, .int .i64 f] 25 (0, 0)) := by rw [hW]; exact al3_0 _ _ _ _
  have P : W.heap[w.heap.size + 1]? = some (.cells #[.int .i64 g, .int .i64 h, .int .i64 i, .int .i64 j, .int .i64 k, .int .i64 l] 25 (0, 0)) := by rw [hW]; exact al3_1 _ _ _ _
  have R : W.heap[w.heap.size + 1 + 1]? = some (.cells #[.int .i64 0, .int .i64 0, .int .i64 0, .int .i64 0, .int .i64 0, .int .i64 0] 25 (0, 0)) := by rw [hW]; exact al3_2 _ _ _ _
  have HB := hide (show Below w.heap.size w W by rw [hW]; exact al3_below _ _ _ _)
  rw [← hW]
  clear hW
  obtain ⟨m0, m1, m2, m3, m4, m5⟩ := row6 A
  go_wp2_with fail
  refine (unhide HM _).mono ?_
  rintro r w1 ⟨rfl, hb⟩
  clear m0 m1 m2 m3 m4 m5
  replace A := (hb.block _ (heap_lt A)).trans A
  replace P := (hb.block _ (heap_lt P)).trans P
  replace R := (hb.block _ (heap_lt R)).trans R
  replace HB := hide (below_two (unhide HB) hb)
  clear hb
  obtain ⟨p0, p1, p2, p3, p4, p5⟩ := row6 P
  go_wp2_with fail
  refine (unhide HP _).mono ?_
  rintro r w2 ⟨rfl, hb⟩
  clear p0 p1 p2 p3 p4 p5
  replace A := (hb.block _ (heap_lt A)).trans A
  replace P := (hb.block _ (heap_lt P)).trans P
  replace R := (hb.block _ (heap_lt R)).trans R
  replace HB := hide (below_two (unhide HB) hb)
  clear hb
  obtain ⟨m0, m1, m2, m3, m4, m5⟩ := row6 A
  obtain ⟨p0, p1, p2, p3, p4, p5⟩ := row6 P
  go_wp2_with fail
  refine (unhide T1 _).mono ?_
  rintro r w3 ⟨rfl, hb⟩
  clear m0 m1 m2 m3 m4 m5 p0 p1 p2 p3 p4 p5
  replace A := (hb.block _ (heap_lt A)).trans A
  replace P := (hb.block _ (heap_lt P)).trans P
  replace R := (hb.block _ (heap_lt R)).trans R
  replace HB := hide (below_two (unhide HB) hb)
  clear hb
  obtain ⟨m0, m1, m2, m3, m4, m5⟩ := row6 A
  obtain ⟨p0, p1, p2, p3, p4, p5⟩ := row6 P
  obtain ⟨s0, s1, s2, s3, s4, s5⟩ := past6 (heap_lt A) m0 m1 m2 m3 m4 m5
  obtain ⟨t0, t1, t2, t3, t4, t5⟩ := past6 (heap_lt P) p0 p1 p2 p3 p4 p5
  go_wp2_with fail
  obtain ⟨W3, hW3⟩ : ∃ W3, W3 = w3.alloc (.cells #[.int .i64 qA, .int .i64 qB] 27) := ⟨_, rfl⟩
  replace A := (congrArg (fun u : World => u.heap[_]?) hW3).trans ((heap_alloc_old _ _ (heap_lt A)).trans A)
  replace P := (congrArg (fun u : World => u.heap[_]?) hW3).trans ((heap_alloc_old _ _ (heap_lt P)).trans P)
  replace R := (congrArg (fun u : World => u.heap[_]?) hW3).trans ((heap_alloc_old _ _ (heap_lt R)).trans R)
  have X : W3.heap[w3.heap.size]? = some (.cells #[.int .i64 qA, .int .i64 qB] 27 (0, 0)) := by rw [hW3]; exact al1_0 _ _
  replace HB := hide (show Below w.heap.size w W3 by rw [hW3]; exact below_two (unhide HB) (al1_below _ _))
  rw [← hW3]
  clear hW3 m0 m1 m2 m3 m4 m5 p0 p1 p2 p3 p4 p5 s0 s1 s2 s3 s4 s5 t0 t1 t2 t3 t4 t5
  generalize w3.heap.size = bX at X ⊢
  refine (unhide T2 _).mono ?_
  rintro r w4 ⟨rfl, hb⟩
  replace A := (hb.block _ (heap_lt A)).trans A
  replace P := (hb.block _ (heap_lt P)).trans P
  replace R := (hb.block _ (heap_lt R)).trans R
  replace X := (hb.block _ (heap_lt X)).trans X
  replace HB := hide (below_two (unhide HB) hb)
  clear hb
  obtain ⟨m0, m1, m2, m3, m4, m5⟩ := row6 A
  obtain ⟨p0, p1, p2, p3, p4, p5⟩ := row6 P
  obtain ⟨s0, s1, s2, s3, s4, s5⟩ := past6 (heap_lt A) m0 m1 m2 m3 m4 m5
  obtain ⟨t0, t1, t2, t3, t4, t5⟩ := past6 (heap_lt P) p0 p1 p2 p3 p4 p5
  go_wp2_with fail
  obtain ⟨W4, hW4⟩ : ∃ W4, W4 = w4.alloc (.cells #[.int .i64 qC, .int .i64 qD] 27) := ⟨_, rfl⟩
  replace A := (congrArg (fun u : World => u.heap[_]?) hW4).trans ((heap_alloc_old _ _ (heap_lt A)).trans A)
  replace P := (congrArg (fun u : World => u.heap[_]?) hW4).trans ((heap_alloc_old _ _ (heap_lt P)).trans P)
  replace R := (congrArg (fun u : World => u.heap[_]?) hW4).trans ((heap_alloc_old _ _ (heap_lt R)).trans R)
  replace X := (congrArg (fun u : World => u.heap[_]?) hW4).trans ((heap_alloc_old _ _ (heap_lt X)).trans X)
  have Y : W4.heap[w4.heap.size]? = some (.cells #[.int .i64 qC, .int .i64 qD] 27 (0, 0)) := by rw [hW4]; exact al1_0 _ _
  replace HB := hide (show Below w.heap.size w W4 by rw [hW4]; exact below_two (unhide HB) (al1_below _ _))
  rw [← hW4]
  clear hW4 m0 m1 m2 m3 m4 m5 p0 p1 p2 p3 p4 p5 s0 s1 s2 s3 s4 s5 t0 t1 t2 t3 t4 t5
  generalize w4.heap.size = bY at Y ⊢
  refine (unhide T3 _).mono ?_
  rintro r w5 ⟨rfl, hb⟩
  replace A := (hb.block _ (heap_lt A)).trans A
  replace P := (hb.block _ (heap_lt P)).trans P
  replace R := (hb.block _ (heap_lt R)).trans R
  replace X := (hb.block _ (heap_lt X)).trans X
  replace Y := (hb.block _ (heap_lt Y)).trans Y
  replace HB := hide (below_two (unhide HB) hb)
  clear hb
  obtain ⟨m0, m1, m2, m3, m4, m5⟩ := row6 A
  obtain ⟨p0, p1, p2, p3, p4, p5⟩ := row6 P
  obtain ⟨s0, s1, s2, s3, s4, s5⟩ := past6 (heap_lt A) m0 m1 m2 m3 m4 m5
  obtain ⟨t0, t1, t2, t3, t4, t5⟩ := past6 (heap_lt P) p0 p1 p2 p3 p4 p5
  obtain ⟨c0, c1⟩ := row2 X
  obtain ⟨d0, d1⟩ := row2 Y
  obtain ⟨v0, v1⟩ := past2 (heap_lt X) c0 c1
  obtain ⟨y0, y1⟩ := past2 (heap_lt Y) d0 d1
  go_wp2_with fail
  obtain ⟨W5, hW5⟩ : ∃ W5, W5 = (w5.alloc (.cells #[.int .i64 qE, .int .i64 qF] 27)).alloc (.cells #[.int .i64 qA, .int .i64 qB, .int .i64 qC, .int .i64 qD, .int .i64 (qE + e), .int .i64 (qF + f)] 25) := ⟨_, rfl⟩
  replace R : W5.heap[w.heap.size + 1 + 1]? = some (.cells #[.int .i64 0, .int .i64 0, .int .i64 0, .int .i64 0, .int .i64 0, .int .i64 0] 25 (0, 0)) := by rw [hW5]; exact (heap_alloc_old _ _ (Nat.lt_trans (heap_lt R) (new_lt _ _))).trans ((heap_alloc_old _ _ (heap_lt R)).trans R)
  have O : W5.heap[w5.heap.size + 1]? = some (.cells #[.int .i64 qA, .int .i64 qB, .int .i64 qC, .int .i64 qD, .int .i64 (qE + e), .int .i64 (qF + f)] 25 (0, 0)) := by rw [hW5]; exact al2_1 _ _ _
  replace HB := hide (show Below w.heap.size w W5 by rw [hW5]; exact below_two (unhide HB) (al2_below _ _ _))
  rw [← hW5]
  clear hW5 A P X Y m0 m1 m2 m3 m4 m5 p0 p1 p2 p3 p4 p5 s0 s1 s2 s3 s4 s5 t0 t1 t2 t3 t4 t5 c0 c1 d0 d1 v0 v1 y0 y1
  generalize w5.heap.size + 1 = bO at O ⊢
  refine (unhide HO _).mono ?_
  rintro r w6 ⟨rfl, hb⟩
  replace R := (hb.block _ (heap_lt R)).trans R
  replace O := (hb.block _ (heap_lt O)).trans O
  replace HB := hide (below_two (unhide HB) hb)
  clear hb
  cases po
  · obtain ⟨r0, r1, r2, r3, r4, r5⟩ := row6 R
    obtain ⟨f0, f1, f2, f3, f4, f5⟩ := free6 R
    obtain ⟨o0, o1, o2, o3, o4, o5⟩ := row6 O
    clear R O
    go_wp2_with fail
    obtain ⟨V, hV⟩ : ∃ V, V = ((((((w6.setCell ⟨w.heap.size + 1 + 1, 0, none⟩ (.int .i64 0)).setCell ⟨w.heap.size + 1 + 1, 1, none⟩ (.int .i64 0)).setCell ⟨w.heap.size + 1 + 1, 2, none⟩ (.int .i64 0)).setCell ⟨w.heap.size + 1 + 1, 3, none⟩ (.int .i64 0)).setCell ⟨w.heap.size + 1 + 1, 4, none⟩ (.int .i64 0)).setCell ⟨w.heap.size + 1 + 1, 5, none⟩ (.int .i64 0)) := ⟨_, rfl⟩
    rw [← hV]
    have q0 : V.cell? ⟨w.heap.size + 1 + 1, 0, none⟩ = some (.int .i64 0) := by rw [hV]; with_reducible exact put6_0 r0 _ _ _ _ _ _
    have q1 : V.cell? ⟨w.heap.size + 1 + 1, 1, none⟩ = some (.int .i64 0) := by rw [hV]; with_reducible exact put6_1 r1 _ _ _ _ _ _
    have q2 : V.cell? ⟨w.heap.size + 1 + 1, 2, none⟩ = some (.int .i64 0) := by rw [hV]; with_reducible exact put6_2 r2 _ _ _ _ _ _
    have q3 : V.cell? ⟨w.heap.size + 1 + 1, 3, none⟩ = some (.int .i64 0) := by rw [hV]; with_reducible exact put6_3 r3 _ _ _ _ _ _
    have q4 : V.cell? ⟨w.heap.size + 1 + 1, 4, none⟩ = some (.int .i64 0) := by rw [hV]; with_reducible exact put6_4 r4 _ _ _ _ _ _
    have q5 : V.cell? ⟨w.heap.size + 1 + 1, 5, none⟩ = some (.int .i64 0) := by rw [hV]; with_reducible exact put6_5 r5 _ _ _ _ _ _
    replace HB := hide (show Below w.heap.size w V by rw [hV]; exact below_put6 (unhide HB) (by omega) _ _ _ _ _ _)
    clear hV r0 r1 r2 r3 r4 r5 f0 f1 f2 f3 f4 f5
    refine bodyPost_ret (v := .tuple #[.agg #[.int .i64 0, .int .i64 0, .int .i64 0, .int .i64 0, .int .i64 0, .int .i64 0], .bool false]) (by simp [results, Try.results13, go_sem, q0, q1, q2, q3, q4, q5]) rfl ⟨by rw [unhide HV']; rfl, unhide HB⟩
  · obtain ⟨r0, r1, r2, r3, r4, r5⟩ := row6 R
    obtain ⟨f0, f1, f2, f3, f4, f5⟩ := free6 R
    obtain ⟨o0, o1, o2, o3, o4, o5⟩ := row6 O
    clear R O
    go_wp2_with fail
    obtain ⟨V, hV⟩ : ∃ V, V = ((((((w6.setCell ⟨w.heap.size + 1 + 1, 0, none⟩ (.int .i64 qA)).setCell ⟨w.heap.size + 1 + 1, 1, none⟩ (.int .i64 qB)).setCell ⟨w.heap.size + 1 + 1, 2, none⟩ (.int .i64 qC)).setCell ⟨w.heap.size + 1 + 1, 3, none⟩ (.int .i64 qD)).setCell ⟨w.heap.size + 1 + 1, 4, none⟩ (.int .i64 (qE + e))).setCell ⟨w.heap.size + 1 + 1, 5, none⟩ (.int .i64 (qF + f))) := ⟨_, rfl⟩
    rw [← hV]
    have q0 : V.cell? ⟨w.heap.size + 1 + 1, 0, none⟩ = some (.int .i64 qA) := by rw [hV]; with_reducible exact put6_0 r0 _ _ _ _ _ _
    have q1 : V.cell? ⟨w.heap.size + 1 + 1, 1, none⟩ = some (.int .i64 qB) := by rw [hV]; with_reducible exact put6_1 r1 _ _ _ _ _ _
    have q2 : V.cell? ⟨w.heap.size + 1 + 1, 2, none⟩ = some (.int .i64 qC) := by rw [hV]; with_reducible exact put6_2 r2 _ _ _ _ _ _
    have q3 : V.cell? ⟨w.heap.size + 1 + 1, 3, none⟩ = some (.int .i64 qD) := by rw [hV]; with_reducible exact put6_3 r3 _ _ _ _ _ _
    have q4 : V.cell? ⟨w.heap.size + 1 + 1, 4, none⟩ = some (.int .i64 (qE + e)) := by rw [hV]; with_reducible exact put6_4 r4 _ _ _ _ _ _
    have q5 : V.cell? ⟨w.heap.size + 1 + 1, 5, none⟩ = some (.int .i64 (qF + f)) := by rw [hV]; with_reducible exact put6_5 r5 _ _ _ _ _ _
    replace HB := hide (show Below w.heap.size w V by rw [hV]; exact below_put6 (unhide HB) (by omega) _ _ _ _ _ _)
    clear hV r0 r1 r2 r3 r4 r5 f0 f1 f2 f3 f4 f5
    refine bodyPost_ret (v := .tuple #[.agg #[.int .i64 qA, .int .i64 qB, .int .i64 qC, .int .i64 qD, .int .i64 (qE + e), .int .i64 (qF + f)], .bool true]) (by simp [results, Try.results13, go_sem, q0, q1, q2, q3, q4, q5]) rfl ⟨by rw [unhide HV']; rfl, unhide HB⟩
end Go.Proofs.Ytaaeegahlpmhpaa
