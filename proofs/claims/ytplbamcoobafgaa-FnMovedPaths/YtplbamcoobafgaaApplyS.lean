/-
  The walk of the specification's Apply.
-/
import Derived.Test.YtplbamcoobafgaaPlaceS
import Derived.Test.YtplbamcoobafgaaAgg
namespace Go.Proofs.Ytplbamcoobafgaa
open Go.RowKit

def aggP (x y : Int) : Value := .agg #[.int .i64 x, .int .i64 y]
def aggM (a b c d e f : Int) : Value := .agg #[.int .i64 a, .int .i64 b, .int .i64 c, .int .i64 d, .int .i64 e, .int .i64 f]
theorem ret_p {a b x y : Int} (h : a = x) (k : b = y) : Ending.returned (.agg #[.int .i64 a, .int .i64 b]) = .returned (.agg #[.int .i64 x, .int .i64 y]) := by rw [h, k]

/-- One coordinate of a moved point. -/
def moveI (a x c y e : Int) : Int := clampI (rdivI (a * x + c * y) 65536 + e) (-8388608) 8388608

theorem rdiv_bd {n : Int} {m : Int} (h1 : -m ≤ n) (h2 : n ≤ m) : -m - 1 ≤ rdivI n 65536 ∧ rdivI n 65536 ≤ m + 1 := by
  unfold rdivI; rw [if_neg (by decide)]; split <;> omega

theorem mul_bd {a x A X : Int} (a1 : -A ≤ a) (a2 : a ≤ A) (x1 : -X ≤ x) (x2 : x ≤ X) : -(A * X) ≤ a * x ∧ a * x ≤ A * X := by
  have hA : 0 ≤ A := by omega
  have hX : 0 ≤ X := by omega
  have h1 : (A - a) * (X - x) ≥ 0 := Int.mul_nonneg (by omega) (by omega)
  have h2 : (A + a) * (X + x) ≥ 0 := Int.mul_nonneg (by omega) (by omega)
  have h3 : (A - a) * (X + x) ≥ 0 := Int.mul_nonneg (by omega) (by omega)
  have h4 : (A + a) * (X - x) ≥ 0 := Int.mul_nonneg (by omega) (by omega)
  simp only [Int.mul_sub, Int.sub_mul, Int.mul_add, Int.add_mul] at h1 h2 h3 h4
  omega

theorem mat_bd {a b c d e f : Int} (h : matOkB a b c d e f = true) : (-1048576 ≤ a ∧ a ≤ 1048576) ∧ (-1048576 ≤ b ∧ b ≤ 1048576) ∧ (-1048576 ≤ c ∧ c ≤ 1048576) ∧ (-1048576 ≤ d ∧ d ≤ 1048576) ∧ (-8388608 ≤ e ∧ e ≤ 8388608) ∧ (-8388608 ≤ f ∧ f ≤ 8388608) := by
  simpa [matOkB, inB] using h

theorem point_bd {x y : Int} (h : pointOkB x y = true) : (-8388608 ≤ x ∧ x ≤ 8388608) ∧ (-8388608 ≤ y ∧ y ≤ 8388608) := by
  simpa [pointOkB, inB] using h

set_option maxHeartbeats 1000000 in
set_option maxRecDepth 100000 in
theorem specApply_no (a b c d e f x y : Int) (h : (matOkB a b c d e f && pointOkB x y) = false) (w : World) :
    Calls Try.prog 17 #[.agg #[.int .i64 a, .int .i64 b, .int .i64 c, .int .i64 d, .int .i64 e, .int .i64 f], .agg #[.int .i64 x, .int .i64 y]] w fun r w' => r = .returned (.agg #[.int .i64 0, .int .i64 0]) ∧ Below w.heap.size w w' := by
  have HM := hide (specMatOk_any a b c d e f)
  have HP := hide (specPointOk_any x y)
  generalize matOkB a b c d e f = pm at HM h
  generalize pointOkB x y = pp at HP h
  go_enter Try.func17, Try.ntmps17
  go_wp2_with fail
  refine (unhide HM _).mono ?_
  rintro r w1 ⟨rfl, hb1⟩
  have C1 := hide (below_ends (al3_below _ _ _ _) hb1 (by rw [al3_size]; omega))
  obtain ⟨p0, p1, hp⟩ := cells2 hb1 (al3_1 _ _ _ _) (by rw [al3_size]; omega)
  obtain ⟨r0, r1, hr⟩ := cells2 hb1 (al3_2 _ _ _ _) (by rw [al3_size]; omega)
  obtain ⟨f0, f1⟩ := free2 hr
  have hs : w.heap.size + 3 ≤ w1.heap.size := by have := hb1.size; rw [al3_size] at this; exact this
  have HR := hide hr
  clear hb1 hp hr
  cases pm
  · go_wp2_with fail
    refine bodyPost_ret (v := .agg #[.int .i64 0, .int .i64 0]) (by simp [results, Try.results17, go_sem, r0, r1]) rfl ⟨rfl, ?_⟩
    exact below_put2 (unhide C1) (by omega) _ _
  · obtain rfl : pp = false := by simpa using h
    go_wp2_with fail
    refine (unhide HP _).mono ?_
    rintro r w2 ⟨rfl, hb2⟩
    have C2 := hide (below_ends (unhide C1) hb2 (by omega))
    obtain ⟨r0, r1, hr⟩ := cells2 hb2 (unhide HR) (by omega)
    obtain ⟨f0, f1⟩ := free2 hr
    clear hb2 hr
    go_wp2_with fail
    refine bodyPost_ret (v := .agg #[.int .i64 0, .int .i64 0]) (by simp [results, Try.results17, go_sem, r0, r1]) rfl ⟨rfl, ?_⟩
    exact below_put2 (unhide C2) (by omega) _ _

set_option maxHeartbeats 2000000 in
set_option maxRecDepth 100000 in
theorem specApply_yes (a b c d e f x y : Int) (hm : matOkB a b c d e f = true) (hp : pointOkB x y = true) (w : World) :
    Calls Try.prog 17 #[.agg #[.int .i64 a, .int .i64 b, .int .i64 c, .int .i64 d, .int .i64 e, .int .i64 f], .agg #[.int .i64 x, .int .i64 y]] w fun r w' => r = .returned (.agg #[.int .i64 (moveI a x c y e), .int .i64 (moveI b x d y f)]) ∧ Below w.heap.size w w' := by
  have HM := hide (specMatOk_any a b c d e f)
  have HP := hide (specPointOk_any x y)
  rw [hm] at HM
  rw [hp] at HP
  obtain ⟨⟨a1, a2⟩, ⟨b1, b2⟩, ⟨c1, c2⟩, ⟨d1, d2⟩, ⟨e1, e2⟩, ⟨f1, f2⟩⟩ := mat_bd hm
  obtain ⟨⟨x1, x2⟩, ⟨y1, y2⟩⟩ := point_bd hp
  obtain ⟨ax1, ax2⟩ := mul_bd a1 a2 x1 x2
  obtain ⟨cy1, cy2⟩ := mul_bd c1 c2 y1 y2
  obtain ⟨bx1, bx2⟩ := mul_bd b1 b2 x1 x2
  obtain ⟨dy1, dy2⟩ := mul_bd d1 d2 y1 y2
  have HX := hide (specRoundDiv_any (a * x + c * y) 65536 (by omega) (by omega) (by omega))
  have HY := hide (specRoundDiv_any (b * x + d * y) 65536 (by omega) (by omega) (by omega))
  obtain ⟨qx1, qx2⟩ := rdiv_bd (n := a * x + c * y) (m := 17592186044416) (by omega) (by omega)
  obtain ⟨qy1, qy2⟩ := rdiv_bd (n := b * x + d * y) (m := 17592186044416) (by omega) (by omega)
  have HKX := hide (specClamp_any (rdivI (a * x + c * y) 65536 + e) (-8388608) 8388608)
  have HKY := hide (specClamp_any (rdivI (b * x + d * y) 65536 + f) (-8388608) 8388608)
  have EX : Hid (clampI (rdivI (a * x + c * y) 65536 + e) (-8388608) 8388608 = moveI a x c y e) := rfl
  have EY : Hid (clampI (rdivI (b * x + d * y) 65536 + f) (-8388608) 8388608 = moveI b x d y f) := rfl
  generalize rdivI (a * x + c * y) 65536 = qx at HX HKX EX qx1 qx2
  generalize rdivI (b * x + d * y) 65536 = qy at HY HKY EY qy1 qy2
  generalize clampI (qx + e) (-8388608) 8388608 = kx at HKX EX
  generalize clampI (qy + f) (-8388608) 8388608 = ky at HKY EY
  have u1 : IntKind.i64.wrap (a * x) = a * x := IntWalk.i64_in _ (by omega)
  have u2 : IntKind.i64.wrap (c * y) = c * y := IntWalk.i64_in _ (by omega)
  have u3 : IntKind.i64.wrap (a * x + c * y) = a * x + c * y := IntWalk.i64_in _ (by omega)
  have u4 : IntKind.i64.wrap (qx + e) = qx + e := IntWalk.i64_in _ (by omega)
  have u5 : IntKind.i64.wrap (b * x) = b * x := IntWalk.i64_in _ (by omega)
  have u6 : IntKind.i64.wrap (d * y) = d * y := IntWalk.i64_in _ (by omega)
  have u7 : IntKind.i64.wrap (b * x + d * y) = b * x + d * y := IntWalk.i64_in _ (by omega)
  have u8 : IntKind.i64.wrap (qy + f) = qy + f := IntWalk.i64_in _ (by omega)
  clear hm hp
  go_enter Try.func17, Try.ntmps17
  go_wp2_with fail
  refine (unhide HM _).mono ?_
  rintro r w1 ⟨rfl, hb1⟩
  have C1 := hide (below_ends (al3_below _ _ _ _) hb1 (by rw [al3_size]; omega))
  obtain ⟨_, _, _, _, _, _, hm⟩ := cells6 hb1 (al3_0 _ _ _ _) (by rw [al3_size]; omega)
  obtain ⟨p0, p1, hp⟩ := cells2 hb1 (al3_1 _ _ _ _) (by rw [al3_size]; omega)
  obtain ⟨_, _, hr⟩ := cells2 hb1 (al3_2 _ _ _ _) (by rw [al3_size]; omega)
  have hs : w.heap.size + 3 ≤ w1.heap.size := by have := hb1.size; rw [al3_size] at this; exact this
  have H1 := hide (And.intro hm (And.intro hp hr))
  clear hb1 hp hr hm
  go_wp2_with fail
  refine (unhide HP _).mono ?_
  rintro r w2 ⟨rfl, hb2⟩
  clear p0 p1
  have C2 := hide (below_ends (unhide C1) hb2 (by omega))
  obtain ⟨m0, m1, m2, m3, m4, m5, _⟩ := cells6 hb2 (unhide H1).1 (by omega)
  obtain ⟨p0, p1, _⟩ := cells2 hb2 (unhide H1).2.1 (by omega)
  obtain ⟨r0, r1, hr⟩ := cells2 hb2 (unhide H1).2.2 (by omega)
  obtain ⟨g0, g1⟩ := free2 hr
  clear hb2 hr
  go_wp2_with fail
  go_quiet ((go_at_call 40; exact Calls.quiet_of_same (unhide HX _)))
  go_wp2_with fail
  go_quiet ((go_at_call 40; exact quiet_more (unhide HY _)))
  go_wp2_with fail

  refine (unhide HKX _).mono ?_
  rintro r w3 ⟨rfl, rfl⟩
  go_wp2_with fail
  refine (unhide HKY _).mono ?_
  rintro r w4 ⟨rfl, rfl⟩
  go_wp2_with fail
  refine bodyPost_ret (v := .agg #[.int .i64 kx, .int .i64 ky]) (by simp [results, Try.results17, go_sem, r0, r1]) rfl ⟨ret_p (unhide EX) (unhide EY), ?_⟩
  exact below_put2 (below_drews (unhide C2) _) (by omega) _ _
end Go.Proofs.Ytplbamcoobafgaa
