/-
  The walk of the program's Apply.
-/
import Derived.Test.YtplbamcoobafgaaApplyS
import Derived.Test.YtplbamcoobafgaaPlaceI
import Derived.Test.YtplbamcoobafgaaTurnI
import Derived.Test.YtplbamcoobafgaaAgg
namespace Go.Proofs.Ytplbamcoobafgaa
open Go.RowKit

set_option maxHeartbeats 1000000 in
set_option maxRecDepth 100000 in
theorem implApply_no (a b c d e f x y : Int) (h : (matOkB a b c d e f && pointOkB x y) = false) (w : World) :
    Calls Try.prog 36 #[.agg #[.int .i64 a, .int .i64 b, .int .i64 c, .int .i64 d, .int .i64 e, .int .i64 f], .agg #[.int .i64 x, .int .i64 y]] w fun r w' => r = .returned (.agg #[.int .i64 0, .int .i64 0]) ∧ Below w.heap.size w w' := by
  have HM := hide (implMatOk_any a b c d e f)
  have HP := hide (implPointOk_any x y)
  generalize matOkB a b c d e f = pm at HM h
  generalize pointOkB x y = pp at HP h
  go_enter Try.func36, Try.ntmps36
  go_wp2_with fail
  obtain ⟨W, hW⟩ : ∃ W, W = ((w.alloc (.cells #[.int .i64 a, .int .i64 b, .int .i64 c, .int .i64 d, .int .i64 e, .int .i64 f] 37)).alloc (.cells #[.int .i64 x, .int .i64 y] 39)).alloc (.cells #[.int .i64 0, .int .i64 0] 39) := ⟨_, rfl⟩
  have A : W.heap[w.heap.size]? = some (.cells #[.int .i64 a, .int .i64 b, .int .i64 c, .int .i64 d, .int .i64 e, .int .i64 f] 37 (0, 0)) := by rw [hW]; exact al3_0 _ _ _ _
  have P : W.heap[w.heap.size + 1]? = some (.cells #[.int .i64 x, .int .i64 y] 39 (0, 0)) := by rw [hW]; exact al3_1 _ _ _ _
  have R : W.heap[w.heap.size + 1 + 1]? = some (.cells #[.int .i64 0, .int .i64 0] 39 (0, 0)) := by rw [hW]; exact al3_2 _ _ _ _
  have HB := hide (show Below w.heap.size w W by rw [hW]; exact al3_below _ _ _ _)
  rw [← hW]
  clear hW
  obtain ⟨m0, m1, m2, m3, m4, m5⟩ := row6 A
  go_wp2_with fail
  refine (unhide HM _).mono ?_
  rintro r w1 ⟨rfl, hb⟩
  clear m0 m1 m2 m3 m4 m5
  replace A := (hb.block _ (heap_lt A)).trans A
  replace P := (hb.block _ (heap_lt P)).trans P
  replace R := (hb.block _ (heap_lt R)).trans R
  replace HB := hide (below_two (unhide HB) hb)
  clear hb
  cases pm
  · obtain ⟨r0, r1⟩ := row2 R
    obtain ⟨f0, f1⟩ := free2 R
    clear A P R
    go_wp2_with fail
    refine bodyPost_ret (v := .agg #[.int .i64 0, .int .i64 0]) (by simp [results, Try.results36, go_sem, r0, r1]) rfl ⟨rfl, ?_⟩
    exact below_put2 (unhide HB) (by omega) _ _
  obtain rfl : pp = false := by simpa using h
  obtain ⟨p0, p1⟩ := row2 P
  go_wp2_with fail
  refine (unhide HP _).mono ?_
  rintro r w2 ⟨rfl, hb⟩
  clear p0 p1
  replace A := (hb.block _ (heap_lt A)).trans A
  replace P := (hb.block _ (heap_lt P)).trans P
  replace R := (hb.block _ (heap_lt R)).trans R
  replace HB := hide (below_two (unhide HB) hb)
  clear hb
  obtain ⟨r0, r1⟩ := row2 R
  obtain ⟨f0, f1⟩ := free2 R
  clear A P R
  go_wp2_with fail
  refine bodyPost_ret (v := .agg #[.int .i64 0, .int .i64 0]) (by simp [results, Try.results36, go_sem, r0, r1]) rfl ⟨rfl, ?_⟩
  exact below_put2 (unhide HB) (by omega) _ _

set_option maxHeartbeats 2000000 in
set_option maxRecDepth 100000 in
theorem implApply_yes (a b c d e f x y : Int) (hm : matOkB a b c d e f = true) (hp : pointOkB x y = true) (w : World) :
    Calls Try.prog 36 #[.agg #[.int .i64 a, .int .i64 b, .int .i64 c, .int .i64 d, .int .i64 e, .int .i64 f], .agg #[.int .i64 x, .int .i64 y]] w fun r w' => r = .returned (.agg #[.int .i64 (moveI a x c y e), .int .i64 (moveI b x d y f)]) ∧ Below w.heap.size w w' := by
  have HM := hide (implMatOk_any a b c d e f)
  have HP := hide (implPointOk_any x y)
  rw [hm] at HM
  rw [hp] at HP
  obtain ⟨⟨a1, a2⟩, ⟨b1, b2⟩, ⟨c1, c2⟩, ⟨d1, d2⟩, ⟨e1, e2⟩, ⟨f1, f2⟩⟩ := mat_bd hm
  obtain ⟨⟨x1, x2⟩, ⟨y1, y2⟩⟩ := point_bd hp
  have HT := hide (implTurn_any a b c d e f x y a1 a2 b1 b2 c1 c2 d1 d2 x1 x2 y1 y2)
  obtain ⟨qx1, qx2⟩ := cross_bd a1 a2 c1 c2 x1 x2 y1 y2
  obtain ⟨qy1, qy2⟩ := cross_bd b1 b2 d1 d2 x1 x2 y1 y2
  have HN := hide (implNearPoint_any (crossI a x c y + e) (crossI b x d y + f))
  have EX : Hid (clampI (crossI a x c y + e) (-8388608) 8388608 = moveI a x c y e) := rfl
  have EY : Hid (clampI (crossI b x d y + f) (-8388608) 8388608 = moveI b x d y f) := rfl
  generalize crossI a x c y = qx at HT HN EX qx1 qx2
  generalize crossI b x d y = qy at HT HN EY qy1 qy2
  generalize clampI (qx + e) (-8388608) 8388608 = kx at HN EX
  generalize clampI (qy + f) (-8388608) 8388608 = ky at HN EY
  have u4 : IntKind.i64.wrap (qx + e) = qx + e := IntWalk.i64_in _ (by omega)
  have u8 : IntKind.i64.wrap (qy + f) = qy + f := IntWalk.i64_in _ (by omega)
  clear hm hp a1 a2 b1 b2 c1 c2 d1 d2 x1 x2 y1 y2 e1 e2 f1 f2 qx1 qx2 qy1 qy2
  go_enter Try.func36, Try.ntmps36
  go_wp2_with fail
  obtain ⟨W, hW⟩ : ∃ W, W = ((w.alloc (.cells #[.int .i64 a, .int .i64 b, .int .i64 c, .int .i64 d, .int .i64 e, .int .i64 f] 37)).alloc (.cells #[.int .i64 x, .int .i64 y] 39)).alloc (.cells #[.int .i64 0, .int .i64 0] 39) := ⟨_, rfl⟩
  have A : W.heap[w.heap.size]? = some (.cells #[.int .i64 a, .int .i64 b, .int .i64 c, .int .i64 d, .int .i64 e, .int .i64 f] 37 (0, 0)) := by rw [hW]; exact al3_0 _ _ _ _
  have P : W.heap[w.heap.size + 1]? = some (.cells #[.int .i64 x, .int .i64 y] 39 (0, 0)) := by rw [hW]; exact al3_1 _ _ _ _
  have R : W.heap[w.heap.size + 1 + 1]? = some (.cells #[.int .i64 0, .int .i64 0] 39 (0, 0)) := by rw [hW]; exact al3_2 _ _ _ _
  have HB := hide (show Below w.heap.size w W by rw [hW]; exact al3_below _ _ _ _)
  rw [← hW]
  clear hW
  obtain ⟨m0, m1, m2, m3, m4, m5⟩ := row6 A
  go_wp2_with fail
  refine (unhide HM _).mono ?_
  rintro r w1 ⟨rfl, hb⟩
  clear m0 m1 m2 m3 m4 m5
  replace A := (hb.block _ (heap_lt A)).trans A
  replace P := (hb.block _ (heap_lt P)).trans P
  replace R := (hb.block _ (heap_lt R)).trans R
  replace HB := hide (below_two (unhide HB) hb)
  clear hb
  obtain ⟨p0, p1⟩ := row2 P
  go_wp2_with fail
  refine (unhide HP _).mono ?_
  rintro r w2 ⟨rfl, hb⟩
  clear p0 p1
  replace A := (hb.block _ (heap_lt A)).trans A
  replace P := (hb.block _ (heap_lt P)).trans P
  replace R := (hb.block _ (heap_lt R)).trans R
  replace HB := hide (below_two (unhide HB) hb)
  clear hb
  obtain ⟨m0, m1, m2, m3, m4, m5⟩ := row6 A
  obtain ⟨p0, p1⟩ := row2 P
  go_wp2_with fail
  refine (unhide HT _).mono ?_
  rintro r w3 ⟨rfl, hb⟩
  clear m0 m1 m2 m3 m4 m5 p0 p1
  replace A := (hb.block _ (heap_lt A)).trans A
  replace P := (hb.block _ (heap_lt P)).trans P
  replace R := (hb.block _ (heap_lt R)).trans R
  replace HB := hide (below_two (unhide HB) hb)
  clear hb
  obtain ⟨m0, m1, m2, m3, m4, m5⟩ := row6 A
  have hlt := heap_lt A
  obtain ⟨s0, s1, s2, s3, s4, s5⟩ := past6 hlt m0 m1 m2 m3 m4 m5
  go_wp2_with fail
  obtain ⟨W3, hW3⟩ : ∃ W3, W3 = w3.alloc (.cells #[.int .i64 qx, .int .i64 qy] 39) := ⟨_, rfl⟩
  replace R : W3.heap[w.heap.size + 1 + 1]? = some (.cells #[.int .i64 0, .int .i64 0] 39 (0, 0)) := by rw [hW3]; exact (heap_alloc_old _ _ (heap_lt R)).trans R
  replace HB := hide (show Below w.heap.size w W3 by rw [hW3]; exact below_two (unhide HB) (al1_below _ _))
  rw [← hW3]
  clear hW3 A P
  refine (unhide HN _).mono ?_
  rintro r w4 ⟨rfl, hb⟩
  replace R := (hb.block _ (heap_lt R)).trans R
  replace HB := hide (below_two (unhide HB) hb)
  clear hb s0 s1 s2 s3 s4 s5 m0 m1 m2 m3 m4 m5
  obtain ⟨r0, r1⟩ := row2 R
  obtain ⟨f0, f1⟩ := free2 R
  clear R
  go_wp2_with fail
  refine bodyPost_ret (v := .agg #[.int .i64 kx, .int .i64 ky]) (by simp [results, Try.results36, go_sem, r0, r1]) rfl ⟨ret_p (unhide EX) (unhide EY), ?_⟩
  exact below_put2 (unhide HB) (by omega) _ _
end Go.Proofs.Ytplbamcoobafgaa
