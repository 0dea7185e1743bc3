/-
  ApplyS · DivI · FixI · NearM · PlaceI · ComposeS · TurnI · ApplyI · ApplyA · MoveS · MoveU · AllR · PathI · MoveI · MoveV · CurveM · LinesM · FlatK · CurveA: texts of one claim, in one.
-/
import Derived.Test.YtdbphpekhmlmdabGreatFnExactClipOfM1
import Derived.Deep.RegionHeld3
import Derived.Laws.StructEq
import Derived.KernelRfl
import Derived.Deep.DeepFit
import Derived.Deep.RegionLaw
import Derived.Laws.AppendOwnNone

/-
  The walk of the specification's Apply.
-/
namespace Go.Proofs.YtdbphpekhmlmdabGreat
open Go.RowKit

def aggP (x y : Int) : Value := .agg #[.int .i64 x, .int .i64 y]
def aggM (a b c d e f : Int) : Value := .agg #[.int .i64 a, .int .i64 b, .int .i64 c, .int .i64 d, .int .i64 e, .int .i64 f]
theorem ret_p {a b x y : Int} (h : a = x) (k : b = y) : Ending.returned (.agg #[.int .i64 a, .int .i64 b]) = .returned (.agg #[.int .i64 x, .int .i64 y]) := by rw [h, k]

/-- One coordinate of a moved point. -/
def moveI (a x c y e : Int) : Int := clampI (rdivI (a * x + c * y) 65536 + e) (-8388608) 8388608

theorem rdiv_bd {n : Int} {m : Int} (h1 : -m ≤ n) (h2 : n ≤ m) : -m - 1 ≤ rdivI n 65536 ∧ rdivI n 65536 ≤ m + 1 := by
  unfold rdivI; rw [if_neg (by decide)]; split <;> omega

theorem mul_bd {a x A X : Int} (a1 : -A ≤ a) (a2 : a ≤ A) (x1 : -X ≤ x) (x2 : x ≤ X) : -(A * X) ≤ a * x ∧ a * x ≤ A * X := by
  have hA : 0 ≤ A := by omega
  have hX : 0 ≤ X := by omega
  have h1 : (A - a) * (X - x) ≥ 0 := Int.mul_nonneg (by omega) (by omega)
  have h2 : (A + a) * (X + x) ≥ 0 := Int.mul_nonneg (by omega) (by omega)
  have h3 : (A - a) * (X + x) ≥ 0 := Int.mul_nonneg (by omega) (by omega)
  have h4 : (A + a) * (X - x) ≥ 0 := Int.mul_nonneg (by omega) (by omega)
  simp only [Int.mul_sub, Int.sub_mul, Int.mul_add, Int.add_mul] at h1 h2 h3 h4
  omega

theorem mat_bd {a b c d e f : Int} (h : matOkB a b c d e f = true) : (-1048576 ≤ a ∧ a ≤ 1048576) ∧ (-1048576 ≤ b ∧ b ≤ 1048576) ∧ (-1048576 ≤ c ∧ c ≤ 1048576) ∧ (-1048576 ≤ d ∧ d ≤ 1048576) ∧ (-8388608 ≤ e ∧ e ≤ 8388608) ∧ (-8388608 ≤ f ∧ f ≤ 8388608) := by
  simpa [matOkB, inB] using h

theorem point_bd {x y : Int} (h : pointOkB x y = true) : (-8388608 ≤ x ∧ x ≤ 8388608) ∧ (-8388608 ≤ y ∧ y ≤ 8388608) := by
  simpa [pointOkB, inB] using h

set_option maxHeartbeats 1000000 in
set_option maxRecDepth 100000 in
theorem specApply_no (a b c d e f x y : Int) (h : (matOkB a b c d e f && pointOkB x y) = false) (w : World) :
    Calls Tryz.prog 50 #[.agg #[.int .i64 a, .int .i64 b, .int .i64 c, .int .i64 d, .int .i64 e, .int .i64 f], .agg #[.int .i64 x, .int .i64 y]] w fun r w' => r = .returned (.agg #[.int .i64 0, .int .i64 0]) ∧ Below w.heap.size w w' := by
  have HM := hide (specMatOk_any a b c d e f)
  have HP := hide (specPointOk_any x y)
  generalize matOkB a b c d e f = pm at HM h
  generalize pointOkB x y = pp at HP h
  go_enter Tryz.func50, Tryz.ntmps50
  go_wp2_with fail
  refine (unhide HM _).mono ?_
  rintro r w1 ⟨rfl, hb1⟩
  have C1 := hide (below_ends (al3_below _ _ _ _) hb1 (by rw [al3_size]; omega))
  obtain ⟨p0, p1, hp⟩ := cells2 hb1 (al3_1 _ _ _ _) (by rw [al3_size]; omega)
  obtain ⟨r0, r1, hr⟩ := cells2 hb1 (al3_2 _ _ _ _) (by rw [al3_size]; omega)
  obtain ⟨f0, f1⟩ := free2 hr
  have hs : w.heap.size + 3 ≤ w1.heap.size := by have := hb1.size; rw [al3_size] at this; exact this
  have HR := hide hr
  clear hb1 hp hr
  cases pm
  · go_wp2_with fail
    refine bodyPost_ret (v := .agg #[.int .i64 0, .int .i64 0]) (by simp [results, Tryz.results50, go_sem, r0, r1]) rfl ⟨rfl, ?_⟩
    exact below_put2 (unhide C1) (by omega) _ _
  · obtain rfl : pp = false := by simpa using h
    go_wp2_with fail
    refine (unhide HP _).mono ?_
    rintro r w2 ⟨rfl, hb2⟩
    have C2 := hide (below_ends (unhide C1) hb2 (by omega))
    obtain ⟨r0, r1, hr⟩ := cells2 hb2 (unhide HR) (by omega)
    obtain ⟨f0, f1⟩ := free2 hr
    clear hb2 hr
    go_wp2_with fail
    refine bodyPost_ret (v := .agg #[.int .i64 0, .int .i64 0]) (by simp [results, Tryz.results50, go_sem, r0, r1]) rfl ⟨rfl, ?_⟩
    exact below_put2 (unhide C2) (by omega) _ _

set_option maxHeartbeats 2000000 in
set_option maxRecDepth 100000 in
theorem specApply_yes (a b c d e f x y : Int) (hm : matOkB a b c d e f = true) (hp : pointOkB x y = true) (w : World) :
    Calls Tryz.prog 50 #[.agg #[.int .i64 a, .int .i64 b, .int .i64 c, .int .i64 d, .int .i64 e, .int .i64 f], .agg #[.int .i64 x, .int .i64 y]] w fun r w' => r = .returned (.agg #[.int .i64 (moveI a x c y e), .int .i64 (moveI b x d y f)]) ∧ Below w.heap.size w w' := by
  have HM := hide (specMatOk_any a b c d e f)
  have HP := hide (specPointOk_any x y)
  rw [hm] at HM
  rw [hp] at HP
  obtain ⟨⟨a1, a2⟩, ⟨b1, b2⟩, ⟨c1, c2⟩, ⟨d1, d2⟩, ⟨e1, e2⟩, ⟨f1, f2⟩⟩ := mat_bd hm
  obtain ⟨⟨x1, x2⟩, ⟨y1, y2⟩⟩ := point_bd hp
  obtain ⟨ax1, ax2⟩ := mul_bd a1 a2 x1 x2
  obtain ⟨cy1, cy2⟩ := mul_bd c1 c2 y1 y2
  obtain ⟨bx1, bx2⟩ := mul_bd b1 b2 x1 x2
  obtain ⟨dy1, dy2⟩ := mul_bd d1 d2 y1 y2
  have HX := hide (specRoundDiv_any (a * x + c * y) 65536 (by omega) (by omega) (by omega))
  have HY := hide (specRoundDiv_any (b * x + d * y) 65536 (by omega) (by omega) (by omega))
  obtain ⟨qx1, qx2⟩ := rdiv_bd (n := a * x + c * y) (m := 17592186044416) (by omega) (by omega)
  obtain ⟨qy1, qy2⟩ := rdiv_bd (n := b * x + d * y) (m := 17592186044416) (by omega) (by omega)
  have HKX := hide (specClamp_any (rdivI (a * x + c * y) 65536 + e) (-8388608) 8388608)
  have HKY := hide (specClamp_any (rdivI (b * x + d * y) 65536 + f) (-8388608) 8388608)
  have EX : Hid (clampI (rdivI (a * x + c * y) 65536 + e) (-8388608) 8388608 = moveI a x c y e) := rfl
  have EY : Hid (clampI (rdivI (b * x + d * y) 65536 + f) (-8388608) 8388608 = moveI b x d y f) := rfl
  generalize rdivI (a * x + c * y) 65536 = qx at HX HKX EX qx1 qx2
  generalize rdivI (b * x + d * y) 65536 = qy at HY HKY EY qy1 qy2
  generalize clampI (qx + e) (-8388608) 8388608 = kx at HKX EX
  generalize clampI (qy + f) (-8388608) 8388608 = ky at HKY EY
  have u1 : IntKind.i64.wrap (a * x) = a * x := IntWalk.i64_in _ (by omega)
  have u2 : IntKind.i64.wrap (c * y) = c * y := IntWalk.i64_in _ (by omega)
  have u3 : IntKind.i64.wrap (a * x + c * y) = a * x + c * y := IntWalk.i64_in _ (by omega)
  have u4 : IntKind.i64.wrap (qx + e) = qx + e := IntWalk.i64_in _ (by omega)
  have u5 : IntKind.i64.wrap (b * x) = b * x := IntWalk.i64_in _ (by omega)
  have u6 : IntKind.i64.wrap (d * y) = d * y := IntWalk.i64_in _ (by omega)
  have u7 : IntKind.i64.wrap (b * x + d * y) = b * x + d * y := IntWalk.i64_in _ (by omega)
  have u8 : IntKind.i64.wrap (qy + f) = qy + f := IntWalk.i64_in _ (by omega)
  clear hm hp
  go_enter Tryz.func50, Tryz.ntmps50
  go_wp2_with fail
  refine (unhide HM _).mono ?_
  rintro r w1 ⟨rfl, hb1⟩
  have C1 := hide (below_ends (al3_below _ _ _ _) hb1 (by rw [al3_size]; omega))
  obtain ⟨_, _, _, _, _, _, hm⟩ := cells6 hb1 (al3_0 _ _ _ _) (by rw [al3_size]; omega)
  obtain ⟨p0, p1, hp⟩ := cells2 hb1 (al3_1 _ _ _ _) (by rw [al3_size]; omega)
  obtain ⟨_, _, hr⟩ := cells2 hb1 (al3_2 _ _ _ _) (by rw [al3_size]; omega)
  have hs : w.heap.size + 3 ≤ w1.heap.size := by have := hb1.size; rw [al3_size] at this; exact this
  have H1 := hide (And.intro hm (And.intro hp hr))
  clear hb1 hp hr hm
  go_wp2_with fail
  refine (unhide HP _).mono ?_
  rintro r w2 ⟨rfl, hb2⟩
  clear p0 p1
  have C2 := hide (below_ends (unhide C1) hb2 (by omega))
  obtain ⟨m0, m1, m2, m3, m4, m5, _⟩ := cells6 hb2 (unhide H1).1 (by omega)
  obtain ⟨p0, p1, _⟩ := cells2 hb2 (unhide H1).2.1 (by omega)
  obtain ⟨r0, r1, hr⟩ := cells2 hb2 (unhide H1).2.2 (by omega)
  obtain ⟨g0, g1⟩ := free2 hr
  clear hb2 hr
  go_wp2_with fail
  go_quiet ((go_at_call 84; exact Calls.quiet_of_same (unhide HX _)))
  go_wp2_with fail
  go_quiet ((go_at_call 84; exact quiet_more (unhide HY _)))
  go_wp2_with fail

  refine (unhide HKX _).mono ?_
  rintro r w3 ⟨rfl, rfl⟩
  go_wp2_with fail
  refine (unhide HKY _).mono ?_
  rintro r w4 ⟨rfl, rfl⟩
  go_wp2_with fail
  refine bodyPost_ret (v := .agg #[.int .i64 kx, .int .i64 ky]) (by simp [results, Tryz.results50, go_sem, r0, r1]) rfl ⟨ret_p (unhide EX) (unhide EY), ?_⟩
  exact below_put2 (below_drews (unhide C2) _) (by omega) _ _
end Go.Proofs.YtdbphpekhmlmdabGreat

/-
  The walk of the program's divisions: down, and what is left.
-/
namespace Go.Proofs.YtdbphpekhmlmdabGreat
open Go.RowKit

/-- What a division answers: down, the rest, and by what. -/
def dDown (a b : Int) : Int := if b < 1 then 0 else a / b
def dRest (a b : Int) : Int := if b < 1 then 0 else a % b
def dBy (b : Int) : Int := if b < 1 then 1 else b

theorem rest_neg (a b : Int) (hb : 1 ≤ b) (h : a.tmod b < 0) : a % b = a.tmod b + b := by
  have e := Int.mul_tdiv_add_tmod a b
  have bd := tmod_bd a b hb
  have := (Int.ediv_emod_unique (a := a) (b := b) (r := a.tmod b + b) (q := a.tdiv b - 1) (by omega)).2 ⟨by rw [Int.mul_sub]; omega, by omega, by omega⟩
  exact this.2
theorem rest_pos (a b : Int) (hb : 1 ≤ b) (h : ¬ a.tmod b < 0) : a % b = a.tmod b := by
  have e := Int.mul_tdiv_add_tmod a b
  have bd := tmod_bd a b hb
  have := (Int.ediv_emod_unique (a := a) (b := b) (r := a.tmod b) (q := a.tdiv b) (by omega)).2 ⟨by omega, by omega, by omega⟩
  exact this.2

set_option maxHeartbeats 1000000 in
theorem implDivide_any (a b : Int) (a0 : -9223372036854775808 ≤ a) (a1 : a ≤ 9223372036854775807) (b1 : b ≤ 9223372036854775807) (w : World) :
    Calls Tryz.prog 112 #[.int .i64 a, .int .i64 b] w fun e w' => e = .returned (.agg #[.int .i64 (dDown a b), .int .i64 (dRest a b), .int .i64 (dBy b)]) ∧ Below w.heap.size w w' := by
  by_cases hb : b < 1
  · have e1 : dDown a b = 0 := by unfold dDown; rw [if_pos hb]
    have e2 : dRest a b = 0 := by unfold dRest; rw [if_pos hb]
    have e3 : dBy b = 1 := by unfold dBy; rw [if_pos hb]
    rw [e1, e2, e3]
    clear e1 e2 e3
    go_enter Tryz.func112, Tryz.ntmps112
    go_wp2
    go_region
    all_goals go_wp2
    refine bodyPost_ret (v := .agg #[.int .i64 0, .int .i64 0, .int .i64 1]) (by simp [results, Tryz.results112, go_sem]) rfl ⟨rfl, ?_⟩
    exact (al2_below _ _ _).drew
  · have hb1 : 1 ≤ b := by omega
    have hb2 : (b == 0) = false := beq_eq_false_iff_ne.2 (by omega)
    have bd := tmod_bd a b hb1
    obtain ⟨bd1, bd2⟩ := bd
    by_cases hr : a.tmod b < 0
    · have e1 : dDown a b = a.tdiv b - 1 := by unfold dDown; rw [if_neg hb, floor_neg a b hb1 hr]
      have e2 : dRest a b = a.tmod b + b := by unfold dRest; rw [if_neg hb, rest_neg a b hb1 hr]
      have e3 : dBy b = b := by unfold dBy; rw [if_neg hb]
      have hf := floor_fit hb1 a0 a1
      rw [floor_neg a b hb1 hr] at hf
      obtain ⟨f1, f2⟩ := hf
      rw [e1, e2, e3]
      clear e1 e2 e3
      go_enter Tryz.func112, Tryz.ntmps112
      go_wp2
      go_region
      all_goals go_wp2
      refine bodyPost_ret (v := .agg #[.int .i64 (a.tdiv b - 1), .int .i64 (a.tmod b + b), .int .i64 b]) (by simp [results, Tryz.results112, go_sem]) rfl ⟨rfl, ?_⟩
      exact (al2_below _ _ _).drew
    · have e1 : dDown a b = a.tdiv b := by unfold dDown; rw [if_neg hb, floor_pos a b hb1 hr]
      have e2 : dRest a b = a.tmod b := by unfold dRest; rw [if_neg hb, rest_pos a b hb1 hr]
      have e3 : dBy b = b := by unfold dBy; rw [if_neg hb]
      rw [e1, e2, e3]
      clear e1 e2 e3
      go_enter Tryz.func112, Tryz.ntmps112
      go_wp2
      go_region
      all_goals go_wp2
      refine bodyPost_ret (v := .agg #[.int .i64 (a.tdiv b), .int .i64 (a.tmod b), .int .i64 b]) (by simp [results, Tryz.results112, go_sem]) rfl ⟨rfl, ?_⟩
      exact (al2_below _ _ _).drew

theorem implNearest_any (q r b : Int) (r0 : 0 ≤ r) (r1 : r < b) (b1 : b ≤ 9223372036854775807) (q0 : -9223372036854775808 ≤ q) (q1 : b - r ≤ r → q + 1 ≤ 9223372036854775807) (w : World) :
    Calls Tryz.prog 161 #[.agg #[.int .i64 q, .int .i64 r, .int .i64 b]] w fun e w' => e = .returned (.int .i64 (if b - r ≤ r then q + 1 else q)) ∧ Below w.heap.size w w' := by
  by_cases hc : b - r ≤ r
  · have f := q1 hc
    rw [if_pos hc]
    clear q1
    go_enter Tryz.func161, Tryz.ntmps161
    go_wp2
    go_ret
    exact ⟨rfl, al1_below _ _⟩
  · rw [if_neg hc]
    clear q1
    go_enter Tryz.func161, Tryz.ntmps161
    go_wp2
    go_ret
    exact ⟨rfl, al1_below _ _⟩
end Go.Proofs.YtdbphpekhmlmdabGreat

/-
  The walks of the program's chapter 3: divisions by a generic type, roots bit by bit.
-/
namespace Go.Proofs.YtdbphpekhmlmdabGreat
open Go.RowKit

theorem implFloorDiv_any (a b : Int) (a0 : -9223372036854775808 ≤ a) (a1 : a ≤ 9223372036854775807) (b1 : b ≤ 9223372036854775807) (w : World) :
    Calls Tryz.prog 75 #[.int .i64 a, .int .i64 b] w fun e w' => e = .returned (.int .i64 (fdivI a b)) ∧ Below w.heap.size w w' := by
  have HD := hide (implDivide_any a b a0 a1 b1)
  have H : Hid (dDown a b = fdivI a b) := rfl
  generalize dDown a b = q at HD H
  generalize dRest a b = r at HD
  generalize dBy b = s at HD
  have hfd : ∀ w : World, (Instr.field 136 (.agg #[.int .i64 q, .int .i64 r, .int .i64 s]) 0).run Tryz.prog w = .ok (.int .i64 q) w := fun _ => by kernel_rfl
  go_enter Tryz.func75, Tryz.ntmps75
  go_wp2_with (go_at_call 112; go_must (refine (unhide HD _).mono ?_); rintro e w1 ⟨rfl, hb⟩)
  go_ret
  exact ⟨ret_i64 (unhide H), hb⟩

theorem implRoundDiv_any (a b : Int) (a0 : -9223372036854775808 ≤ a) (a1 : a ≤ 9223372036854775807) (b1 : b ≤ 9223372036854775807) (w : World) :
    Calls Tryz.prog 153 #[.int .i64 a, .int .i64 b] w fun e w' => e = .returned (.int .i64 (rdivI a b)) ∧ Below w.heap.size w w' := by
  have HD := hide (implDivide_any a b a0 a1 b1)
  have H : Hid ((if dBy b - dRest a b ≤ dRest a b then dDown a b + 1 else dDown a b) = rdivI a b) := by
    unfold Hid dBy dRest dDown rdivI
    by_cases hb : b < 1
    · rw [if_pos hb, if_pos hb, if_pos hb, if_pos hb]; rfl
    · rw [if_neg hb, if_neg hb, if_neg hb, if_neg hb]
  have HN := hide (implNearest_any (dDown a b) (dRest a b) (dBy b) (by
      unfold dRest; by_cases hb : b < 1
      · rw [if_pos hb]; exact Int.le_refl 0
      · rw [if_neg hb]; exact (emod_bd a b (by omega)).1) (by
      unfold dRest dBy; by_cases hb : b < 1
      · rw [if_pos hb, if_pos hb]; decide
      · rw [if_neg hb, if_neg hb]; exact (emod_bd a b (by omega)).2) (by
      unfold dBy; by_cases hb : b < 1
      · rw [if_pos hb]; decide
      · rw [if_neg hb]; exact b1) (by
      unfold dDown; by_cases hb : b < 1
      · rw [if_pos hb]; decide
      · rw [if_neg hb]; exact (floor_fit (by omega) a0 a1).1) (by
      unfold dRest dBy dDown; by_cases hb : b < 1
      · rw [if_pos hb, if_pos hb, if_pos hb]; decide
      · rw [if_neg hb, if_neg hb, if_neg hb]; exact rdiv_fit (by omega) a0 a1))
  generalize (if dBy b - dRest a b ≤ dRest a b then dDown a b + 1 else dDown a b) = z at H HN
  go_enter Tryz.func153, Tryz.ntmps153
  go_wp2_with fail
  refine (unhide HD _).mono ?_
  rintro e w1 ⟨rfl, hb1⟩
  go_wp2_with fail
  refine (unhide HN _).mono ?_
  rintro e w2 ⟨rfl, hb2⟩
  go_wp2
  go_ret
  exact ⟨ret_i64 (unhide H), below_after hb2 hb1 (Nat.le_refl _)⟩

theorem implClamp_any (x low high : Int) (w : World) :
    Calls Tryz.prog 111 #[.int .i64 x, .int .i64 low, .int .i64 high] w fun e w' => e = .returned (.int .i64 (clampI x low high)) ∧ w' = w := by
  by_cases h1 : x < low
  · have H : Hid (low = clampI x low high) := by unfold Hid clampI; rw [if_pos h1]
    go_enter Tryz.func111, Tryz.ntmps111
    go_wp2
    go_ret
    exact ⟨ret_i64 (unhide H), rfl⟩
  · by_cases h2 : high < x
    · have H : Hid (high = clampI x low high) := by unfold Hid clampI; rw [if_neg h1, if_pos h2]
      go_enter Tryz.func111, Tryz.ntmps111
      go_wp2
      go_ret
      exact ⟨ret_i64 (unhide H), rfl⟩
    · have H : Hid (x = clampI x low high) := by unfold Hid clampI; rw [if_neg h1, if_neg h2]
      go_enter Tryz.func111, Tryz.ntmps111
      go_wp2
      go_ret
      exact ⟨ret_i64 (unhide H), rfl⟩

/-- A power of two. -/
def PowB (b : Int) : Prop := ∃ p : Nat, b = 2 ^ p
theorem PowB.half {b : Int} (h : PowB b) : (b = 1) ∨ (PowB (b / 2) ∧ 2 * (b / 2) = b ∧ 1 ≤ b / 2) := by
  obtain ⟨p, rfl⟩ := h
  cases p with
  | zero => exact .inl rfl
  | succ p =>
    have e : (2 : Int) ^ (p + 1) / 2 = 2 ^ p := by rw [Int.pow_succ]; exact Int.mul_ediv_cancel _ (by decide)
    refine .inr ⟨⟨p, e⟩, ?_, ?_⟩
    · rw [e, Int.pow_succ, Int.mul_comm]
    · rw [e]; exact Int.pow_pos (by decide)

/-- Where the root stands while the bits go down. -/
structure RootAt (n r b : Int) : Prop where
  pos : 0 ≤ r
  bit : 0 ≤ b
  pow : b = 0 ∨ PowB b
  room : r + 2 * b ≤ 4294967296
  sq : r * r ≤ n
  next : n < (r + (if b = 0 then 1 else 2 * b)) * (r + (if b = 0 then 1 else 2 * b))

theorem le_fdiv {n m : Int} (hm : 1 ≤ m) : m ≤ fdivI n m ↔ m * m ≤ n := by
  unfold fdivI
  rw [if_neg (by omega), Int.le_ediv_iff_mul_le (by omega)]

theorem rootAt_step {n r b : Int} (h : RootAt n r b) (hb : 0 < b) (t : Int) (ht : (r + b) * (r + b) ≤ n ∧ t = r + b ∨ ¬ (r + b) * (r + b) ≤ n ∧ t = r) : RootAt n t (b / 2) := by
  obtain ⟨h1, h2, h3, h4, h5, h6⟩ := h
  rw [if_neg (by omega)] at h6
  have hp : PowB b := h3.resolve_left (by omega)
  have ht0 : 0 ≤ t := by omega
  have hsq : t * t ≤ n := by rcases ht with ⟨a, rfl⟩ | ⟨_, rfl⟩ <;> assumption
  have hnx : n < (t + b) * (t + b) := by
    rcases ht with ⟨_, rfl⟩ | ⟨a, rfl⟩
    · rw [show r + b + b = r + 2 * b by omega]; exact h6
    · omega
  rcases hp.half with rfl | ⟨k1, k2, k3⟩
  · exact ⟨ht0, by decide, .inl (by decide), by omega, hsq, by rw [if_pos (by decide)]; exact hnx⟩
  · refine ⟨ht0, by omega, .inr k1, by omega, hsq, ?_⟩
    rw [if_neg (by omega), k2]; exact hnx

theorem rootAt_end {n r : Int} (h : RootAt n r 0) (hn : n ≤ 9223372036854775807) : IsRoot n r := by
  obtain ⟨h1, h2, h3, h4, h5, h6⟩ := h
  rw [if_pos rfl] at h6
  refine ⟨h1, ?_, h5, h6⟩
  by_cases hc : r ≤ 3037000499
  · exact hc
  · have := sq_mono (a := 3037000500) (b := r) (by omega) (by omega); omega

set_option maxHeartbeats 1000000 in
theorem implRootOf_any (n : Int) (h0 : 0 ≤ n) (h1 : n ≤ 9223372036854775807) (w : World) :
    Calls Tryz.prog 162 #[.int .i64 n] w fun e w' => ∃ s, IsRoot n s ∧ e = .returned (.int .i64 s) ∧ Below w.heap.size w w' := by
  go_enter Tryz.func162, Tryz.ntmps162
  go_wp2
  go_loopw [3, 4] (fun t u wr => ∃ r b : Int, t = .int .i64 r ∧ u = .int .i64 b ∧ 0 ≤ r ∧ 0 ≤ b ∧ r + 2 * b ≤ 4294967296 ∧ Hid (RootAt n r b) ∧ Below w.heap.size w wr) (fun _ u _ => (intOf u).toNat)
  case atStart => exact ⟨0, 2147483648, rfl, rfl, by omega, by omega, by omega, ⟨by omega, by omega, .inr ⟨31, by decide⟩, by omega, by omega, by rw [if_neg (by omega)]; omega⟩, Below.refl _ _⟩
  case round =>
    obtain ⟨r, b, rfl, rfl, hr, hb, hroom, HA, hnx⟩ := hrel
    by_cases hc : 0 < b
    · have HF := hide (implFloorDiv_any n (r + b) (by omega) (by omega) (by omega))
      have hiff := @le_fdiv n (r + b) (by omega)
      have hst := @rootAt_step n r b (unhide HA) hc
      generalize fdivI n (r + b) = q at HF hiff
      by_cases hs : (r + b) * (r + b) ≤ n
      · have hq : r + b ≤ q := hiff.2 hs
        have HN := hide (hst (r + b) (.inl ⟨hs, rfl⟩))
        clear hiff hst hs
        go_wp2_with (go_at_call 75; go_must (refine (unhide HF _).mono ?_); rintro e w1 ⟨rfl, hb1⟩)
        go_roundw
        case rel => exact ⟨r + b, b / 2, rfl, rfl, by omega, by omega, by omega, HN, below_after hb1 hnx (Nat.le_refl _)⟩
        case measure => simp [intOf]; omega
      · have hq : ¬ r + b ≤ q := fun h => hs (hiff.1 h)
        have HN := hide (hst r (.inr ⟨hs, rfl⟩))
        clear hiff hst hs
        go_wp2_with (go_at_call 75; go_must (refine (unhide HF _).mono ?_); rintro e w1 ⟨rfl, hb1⟩)
        go_roundw
        case rel => exact ⟨r, b / 2, rfl, rfl, by omega, by omega, by omega, HN, below_after hb1 hnx (Nat.le_refl _)⟩
        case measure => simp [intOf]; omega
    · have he : b = 0 := by omega
      subst he
      have HR := hide (rootAt_end (unhide HA) h1)
      clear HA
      go_wp2
      go_ret
      exact ⟨r, unhide HR, rfl, hnx⟩

set_option maxHeartbeats 1000000 in
theorem implRootOf_neg (n : Int) (hn : -9223372036854775808 ≤ n) (h0 : n < 0) (w : World) :
    Calls Tryz.prog 162 #[.int .i64 n] w fun e w' => e = .returned (.int .i64 0) ∧ Below w.heap.size w w' := by
  go_enter Tryz.func162, Tryz.ntmps162
  go_wp2
  go_loopw [3, 4] (fun t u wr => ∃ b : Int, t = .int .i64 0 ∧ u = .int .i64 b ∧ 0 ≤ b ∧ b ≤ 2147483648 ∧ Below w.heap.size w wr) (fun _ u _ => (intOf u).toNat)
  case atStart => exact ⟨2147483648, rfl, rfl, by omega, by omega, Below.refl _ _⟩
  case round =>
    obtain ⟨b, rfl, rfl, hb, hroom, hnx⟩ := hrel
    by_cases hc : 0 < b
    · have HF := hide (implFloorDiv_any n b (by omega) (by omega) (by omega))
      have hq : ¬ b ≤ fdivI n b := by
        rw [le_fdiv (by omega)]
        have : 0 ≤ b * b := Int.mul_nonneg hb hb
        omega
      generalize fdivI n b = q at HF hq
      go_wp2_with (go_at_call 75; go_must (refine (unhide HF _).mono ?_); rintro e w1 ⟨rfl, hb1⟩)
      go_roundw
      case rel => exact ⟨b / 2, rfl, rfl, by omega, by omega, below_after hb1 hnx (Nat.le_refl _)⟩
      case measure => simp [intOf]; omega
    · have he : b = 0 := by omega
      subst he
      go_wp2
      go_ret
      exact ⟨rfl, hnx⟩
end Go.Proofs.YtdbphpekhmlmdabGreat

/-
  The walk of the program's nearMat.
-/
namespace Go.Proofs.YtdbphpekhmlmdabGreat
open Go.RowKit

theorem cell_drew (w : World) (p : Addr) : w.drew.cell? p = w.cell? p := rfl

set_option maxHeartbeats 2000000 in
set_option maxRecDepth 100000 in
theorem implNearMat_any (a b c d e f : Int) (w : World) :
    Calls Tryz.prog 133 #[.agg #[.int .i64 a, .int .i64 b, .int .i64 c, .int .i64 d, .int .i64 e, .int .i64 f]] w fun r w' => r = .returned (.agg #[.int .i64 (clampI a (-1048576) 1048576), .int .i64 (clampI b (-1048576) 1048576), .int .i64 (clampI c (-1048576) 1048576), .int .i64 (clampI d (-1048576) 1048576), .int .i64 (clampI e (-8388608) 8388608), .int .i64 (clampI f (-8388608) 8388608)]) ∧ Below w.heap.size w w' := by
  have K := hide implClamp_any
  generalize clampI = cl at K ⊢
  go_enter Tryz.func133, Tryz.ntmps133
  go_wp2_with fail
  obtain ⟨W, hW⟩ : ∃ W, W = (w.alloc (.cells #[.int .i64 a, .int .i64 b, .int .i64 c, .int .i64 d, .int .i64 e, .int .i64 f] 43)).alloc (.cells #[.int .i64 0, .int .i64 0, .int .i64 0, .int .i64 0, .int .i64 0, .int .i64 0] 43) := ⟨_, rfl⟩
  have A : W.heap[w.heap.size]? = some (.cells #[.int .i64 a, .int .i64 b, .int .i64 c, .int .i64 d, .int .i64 e, .int .i64 f] 43 (0, 0)) := by rw [hW]; exact al2_0 _ _ _
  have R : W.heap[w.heap.size + 1]? = some (.cells #[.int .i64 0, .int .i64 0, .int .i64 0, .int .i64 0, .int .i64 0, .int .i64 0] 43 (0, 0)) := by rw [hW]; exact al2_1 _ _ _
  have HB := hide (show Below w.heap.size w W by rw [hW]; exact al2_below _ _ _)
  rw [← hW]
  clear hW
  have B0 : w.heap.size + 1 ≤ W.heap.size := by have := heap_lt R; omega
  have k0 : ∀ u, Below (w.heap.size + 1) W u → (u.cell? ⟨w.heap.size, 0, none⟩ = some (.int .i64 a) ∧ u.cell? ⟨w.heap.size, 1, none⟩ = some (.int .i64 b) ∧ u.cell? ⟨w.heap.size, 2, none⟩ = some (.int .i64 c) ∧ u.cell? ⟨w.heap.size, 3, none⟩ = some (.int .i64 d) ∧ u.cell? ⟨w.heap.size, 4, none⟩ = some (.int .i64 e) ∧ u.cell? ⟨w.heap.size, 5, none⟩ = some (.int .i64 f) ∧ Below (w.heap.size + 1) W u) := fun u h => by
    have A' := (h.block _ (by omega)).trans A
    obtain ⟨m0, m1, m2, m3, m4, m5⟩ := row6 A'
    exact ⟨m0, m1, m2, m3, m4, m5, h⟩
  obtain ⟨r0, r1, r2, r3, r4, r5⟩ := row6 R
  obtain ⟨f0, f1, f2, f3, f4, f5⟩ := free6 R
  clear A R
  go_region_held3 (fun u => u.cell? ⟨w.heap.size, 0, none⟩ = some (.int .i64 a) ∧ u.cell? ⟨w.heap.size, 1, none⟩ = some (.int .i64 b) ∧ u.cell? ⟨w.heap.size, 2, none⟩ = some (.int .i64 c) ∧ u.cell? ⟨w.heap.size, 3, none⟩ = some (.int .i64 d) ∧ u.cell? ⟨w.heap.size, 4, none⟩ = some (.int .i64 e) ∧ u.cell? ⟨w.heap.size, 5, none⟩ = some (.int .i64 f) ∧ Below (w.heap.size + 1) W u) ((refine k0 _ ?_; first | with_reducible exact (Below.refl _ _).drew | with_reducible assumption | (with_reducible refine Below.drew ?_; with_reducible refine below_put6 ?_ (Nat.le_refl _) _ _ _ _ _ _; with_reducible exact Below.refl _ _))) (first | (go_at_call 111; refine (unhide K _ _ _ _).mono ?_; rintro r w4 ⟨rfl, rfl⟩))
  all_goals
    rename_i hH
    clear hH
    obtain ⟨V, hV⟩ : ∃ V, V = (((((((W.setCell ⟨w.heap.size + 1, 0, none⟩ (.int .i64 (cl a (-1048576) 1048576))).setCell ⟨w.heap.size + 1, 1, none⟩ (.int .i64 (cl b (-1048576) 1048576))).setCell ⟨w.heap.size + 1, 2, none⟩ (.int .i64 (cl c (-1048576) 1048576))).setCell ⟨w.heap.size + 1, 3, none⟩ (.int .i64 (cl d (-1048576) 1048576))).setCell ⟨w.heap.size + 1, 4, none⟩ (.int .i64 (cl e (-8388608) 8388608))).setCell ⟨w.heap.size + 1, 5, none⟩ (.int .i64 (cl f (-8388608) 8388608))).drew) := ⟨_, rfl⟩
    rw [← hV]
    have q0 : V.cell? ⟨w.heap.size + 1, 0, none⟩ = some (.int .i64 (cl a (-1048576) 1048576)) := by rw [hV, cell_drew]; with_reducible exact put6_0 r0 _ _ _ _ _ _
    have q1 : V.cell? ⟨w.heap.size + 1, 1, none⟩ = some (.int .i64 (cl b (-1048576) 1048576)) := by rw [hV, cell_drew]; with_reducible exact put6_1 r1 _ _ _ _ _ _
    have q2 : V.cell? ⟨w.heap.size + 1, 2, none⟩ = some (.int .i64 (cl c (-1048576) 1048576)) := by rw [hV, cell_drew]; with_reducible exact put6_2 r2 _ _ _ _ _ _
    have q3 : V.cell? ⟨w.heap.size + 1, 3, none⟩ = some (.int .i64 (cl d (-1048576) 1048576)) := by rw [hV, cell_drew]; with_reducible exact put6_3 r3 _ _ _ _ _ _
    have q4 : V.cell? ⟨w.heap.size + 1, 4, none⟩ = some (.int .i64 (cl e (-8388608) 8388608)) := by rw [hV, cell_drew]; with_reducible exact put6_4 r4 _ _ _ _ _ _
    have q5 : V.cell? ⟨w.heap.size + 1, 5, none⟩ = some (.int .i64 (cl f (-8388608) 8388608)) := by rw [hV, cell_drew]; with_reducible exact put6_5 r5 _ _ _ _ _ _
    have HV := hide (show Below w.heap.size w V by rw [hV]; exact (below_put6 (unhide HB) (by omega) _ _ _ _ _ _).drew)
    clear hV r0 r1 r2 r3 r4 r5 f0 f1 f2 f3 f4 f5 k0
    go_wp2_with fail
    refine bodyPost_ret (v := .agg #[.int .i64 (cl a (-1048576) 1048576), .int .i64 (cl b (-1048576) 1048576), .int .i64 (cl c (-1048576) 1048576), .int .i64 (cl d (-1048576) 1048576), .int .i64 (cl e (-8388608) 8388608), .int .i64 (cl f (-8388608) 8388608)]) (by simp [results, Tryz.results133, go_sem, q0, q1, q2, q3, q4, q5]) rfl ⟨rfl, unhide HV⟩

end Go.Proofs.YtdbphpekhmlmdabGreat

/-
  The walks of the program's chapter 4: points and mats.
-/
namespace Go.Proofs.YtdbphpekhmlmdabGreat
open Go.RowKit

theorem clamp_inB (x a b : Int) : decide (x = clampI x a b) = inB x a b := by
  unfold clampI inB
  by_cases h1 : x < a
  · have : ¬ a ≤ x := by omega
    simp [h1, this]
    omega
  · by_cases h2 : b < x
    · have h3 : ¬ x ≤ b := by omega
      simp [h1, h2, h3]
      omega
    · have h3 : x ≤ b := by omega
      have h4 : a ≤ x := by omega
      simp [h1, h2, h3, h4]

theorem eqlPoint (x y a b : Int) (w : World) : (Op.equalIn 10000 55 (.agg #[.int .i64 x, .int .i64 y]) (.agg #[.int .i64 a, .int .i64 b])).run Tryz.prog w = .ok (decide (x = a) && decide (y = b)) w := by
  have u3 := Tryz.underlying3
  have a3 := Tryz.isAgg3
  have z3 := Tryz.sizeOf3
  have hS : Tryz.prog.underlying 55 = some (.struct (Tryz.prog.fieldsOf 55)) := by kernel_rfl
  rw [show (10000 : Nat) = 9999 + 1 from rfl, run_equalIn_agg w 9999 55 _ _ hS (by kernel_rfl)]
  simp only [Program.fieldsOf, Tryz.underlying55]
  go_simp
  by_cases h1 : x = a <;> by_cases h2 : y = b <;> simp [h1, h2]

theorem eqlMat (a b c d e f g h i j k l : Int) (w : World) : (Op.equalIn 10000 43 (.agg #[.int .i64 a, .int .i64 b, .int .i64 c, .int .i64 d, .int .i64 e, .int .i64 f]) (.agg #[.int .i64 g, .int .i64 h, .int .i64 i, .int .i64 j, .int .i64 k, .int .i64 l])).run Tryz.prog w = .ok (decide (a = g) && (decide (b = h) && (decide (c = i) && (decide (d = j) && (decide (e = k) && decide (f = l)))))) w := by
  have u3 := Tryz.underlying3
  have a3 := Tryz.isAgg3
  have z3 := Tryz.sizeOf3
  have hS : Tryz.prog.underlying 43 = some (.struct (Tryz.prog.fieldsOf 43)) := by kernel_rfl
  rw [show (10000 : Nat) = 9999 + 1 from rfl, run_equalIn_agg w 9999 43 _ _ hS (by kernel_rfl)]
  simp only [Program.fieldsOf, Tryz.underlying43]
  go_simp
  by_cases h1 : a = g
  · by_cases h2 : b = h
    · by_cases h3 : c = i
      · by_cases h4 : d = j
        · by_cases h5 : e = k
          · by_cases h6 : f = l <;> simp [h1, h2, h3, h4, h5, h6]
          · simp [h1, h2, h3, h4, h5]
        · simp [h1, h2, h3, h4]
      · simp [h1, h2, h3]
    · simp [h1, h2]
  · simp [h1]

set_option maxHeartbeats 1000000 in
theorem implNearPoint_any (x y : Int) (w : World) :
    Calls Tryz.prog 135 #[.agg #[.int .i64 x, .int .i64 y]] w fun r w' => r = .returned (.agg #[.int .i64 (clampI x (-8388608) 8388608), .int .i64 (clampI y (-8388608) 8388608)]) ∧ Below w.heap.size w w' := by
  have K0 := hide (implClamp_any x (-8388608) 8388608)
  have K1 := hide (implClamp_any y (-8388608) 8388608)
  generalize clampI x (-8388608) 8388608 = o0 at K0 ⊢
  generalize clampI y (-8388608) 8388608 = o1 at K1 ⊢
  go_enter Tryz.func135, Tryz.ntmps135
  go_wp2_with fail
  obtain ⟨W, hW⟩ : ∃ W, W = (w.alloc (.cells #[.int .i64 x, .int .i64 y] 55)).alloc (.cells #[.int .i64 0, .int .i64 0] 55) := ⟨_, rfl⟩
  obtain ⟨a0, a1⟩ := row2 (w1 := W) (b := w.heap.size) (by rw [hW]; exact al2_0 _ _ _)
  have R : W.heap[w.heap.size + 1]? = some (.cells #[.int .i64 0, .int .i64 0] 55 (0, 0)) := by rw [hW]; exact al2_1 _ _ _
  obtain ⟨r0, r1⟩ := row2 R
  obtain ⟨f0, f1⟩ := free2 R
  have HB := hide (show Below w.heap.size w W by rw [hW]; exact al2_below _ _ _)
  rw [← hW]
  clear hW R
  have ne1 : ¬ w.heap.size + 1 = w.heap.size := by omega
  have ne2 : ¬ w.heap.size = w.heap.size + 1 := by omega
  go_region_held3 (fun u => u.cell? ⟨w.heap.size, 0, none⟩ = some (.int .i64 x) ∧ u.cell? ⟨w.heap.size, 1, none⟩ = some (.int .i64 y)) (go_keep) (first | (go_at_call 111; (first | go_fit (unhide K0 _) | go_fit (unhide K1 _)); rintro r w4 ⟨rfl, rfl⟩))
  all_goals
    go_wp2_with fail
    refine bodyPost_ret (v := .agg #[.int .i64 o0, .int .i64 o1]) (by simp [results, Tryz.results135, go_sem, r0, r1]) rfl ⟨rfl, ?_⟩
    exact below_put2 (below_drews (unhide HB) 1) (by omega) _ _

attribute [local go_sem ↓] eqlPoint in
set_option maxHeartbeats 1000000 in
theorem implPointOk_any (x y : Int) (w : World) :
    Calls Tryz.prog 134 #[.agg #[.int .i64 x, .int .i64 y]] w fun e w' => e = .returned (.bool (pointOkB x y)) ∧ Below w.heap.size w w' := by
  have HN := hide (implNearPoint_any x y)
  have H : Hid ((decide (x = clampI x (-8388608) 8388608) && decide (y = clampI y (-8388608) 8388608)) = pointOkB x y) := by unfold Hid pointOkB; rw [clamp_inB, clamp_inB]
  generalize clampI x (-8388608) 8388608 = o0 at HN H
  generalize clampI y (-8388608) 8388608 = o1 at HN H
  go_enter Tryz.func134, Tryz.ntmps134
  go_wp2_with fail
  obtain ⟨W, hW⟩ : ∃ W, W = (w.alloc (.cells #[.int .i64 x, .int .i64 y] 55)) := ⟨_, rfl⟩
  have A : W.heap[w.heap.size]? = some (.cells #[.int .i64 x, .int .i64 y] 55 (0, 0)) := by rw [hW]; exact al1_0 _ _
  obtain ⟨a0, a1⟩ := row2 A
  have HB := hide (show Below w.heap.size w W by rw [hW]; exact al1_below _ _)
  rw [← hW]
  clear hW
  have k0 : ∀ u, Below W.heap.size W u → (u.cell? ⟨w.heap.size, 0, none⟩ = some (.int .i64 x) ∧ u.cell? ⟨w.heap.size, 1, none⟩ = some (.int .i64 y) ∧ Below W.heap.size W u) := fun u h => keep2 A (heap_lt A) h
  have kS : ∀ u, (u.cell? ⟨w.heap.size, 0, none⟩ = some (.int .i64 x) ∧ u.cell? ⟨w.heap.size, 1, none⟩ = some (.int .i64 y) ∧ Below W.heap.size W u) → Below W.heap.size W u := fun u h => h.2.2
  go_region_held3 (fun u => u.cell? ⟨w.heap.size, 0, none⟩ = some (.int .i64 x) ∧ u.cell? ⟨w.heap.size, 1, none⟩ = some (.int .i64 y) ∧ Below W.heap.size W u) ((refine k0 _ ?_; first | with_reducible exact (Below.refl _ _).drew | (with_reducible refine below_after (by assumption) ?_ (Nat.le_refl _); with_reducible exact (Below.refl _ _).drew))) (first | (go_at_call 135; go_fit (unhide HN _); rintro r w4 ⟨rfl, hb⟩))
  all_goals
    go_wp2_with fail
    go_ret
    exact ⟨ret_bool (unhide H), below_after (kS _ (by assumption)) (unhide HB) (Nat.le_refl _)⟩

attribute [local go_sem ↓] eqlMat in
set_option maxHeartbeats 2000000 in
set_option maxRecDepth 100000 in
theorem implMatOk_any (a b c d e f : Int) (w : World) :
    Calls Tryz.prog 100 #[.agg #[.int .i64 a, .int .i64 b, .int .i64 c, .int .i64 d, .int .i64 e, .int .i64 f]] w fun r w' => r = .returned (.bool (matOkB a b c d e f)) ∧ Below w.heap.size w w' := by
  have HN := hide (implNearMat_any a b c d e f)
  have H : Hid ((decide (a = clampI a (-1048576) 1048576) && (decide (b = clampI b (-1048576) 1048576) && (decide (c = clampI c (-1048576) 1048576) && (decide (d = clampI d (-1048576) 1048576) && (decide (e = clampI e (-8388608) 8388608) && decide (f = clampI f (-8388608) 8388608)))))) = matOkB a b c d e f) := by unfold Hid matOkB; rw [clamp_inB, clamp_inB, clamp_inB, clamp_inB, clamp_inB, clamp_inB]
  generalize clampI a (-1048576) 1048576 = o0 at HN H
  generalize clampI b (-1048576) 1048576 = o1 at HN H
  generalize clampI c (-1048576) 1048576 = o2 at HN H
  generalize clampI d (-1048576) 1048576 = o3 at HN H
  generalize clampI e (-8388608) 8388608 = o4 at HN H
  generalize clampI f (-8388608) 8388608 = o5 at HN H
  go_enter Tryz.func100, Tryz.ntmps100
  go_wp2_with fail
  obtain ⟨W, hW⟩ : ∃ W, W = (w.alloc (.cells #[.int .i64 a, .int .i64 b, .int .i64 c, .int .i64 d, .int .i64 e, .int .i64 f] 43)) := ⟨_, rfl⟩
  have A : W.heap[w.heap.size]? = some (.cells #[.int .i64 a, .int .i64 b, .int .i64 c, .int .i64 d, .int .i64 e, .int .i64 f] 43 (0, 0)) := by rw [hW]; exact al1_0 _ _
  obtain ⟨a0, a1, a2, a3, a4, a5⟩ := row6 A
  have HB := hide (show Below w.heap.size w W by rw [hW]; exact al1_below _ _)
  rw [← hW]
  clear hW
  have k0 : ∀ u, Below W.heap.size W u → (u.cell? ⟨w.heap.size, 0, none⟩ = some (.int .i64 a) ∧ u.cell? ⟨w.heap.size, 1, none⟩ = some (.int .i64 b) ∧ u.cell? ⟨w.heap.size, 2, none⟩ = some (.int .i64 c) ∧ u.cell? ⟨w.heap.size, 3, none⟩ = some (.int .i64 d) ∧ u.cell? ⟨w.heap.size, 4, none⟩ = some (.int .i64 e) ∧ u.cell? ⟨w.heap.size, 5, none⟩ = some (.int .i64 f) ∧ Below W.heap.size W u) := fun u h => keep6 A (heap_lt A) h
  have kS : ∀ u, (u.cell? ⟨w.heap.size, 0, none⟩ = some (.int .i64 a) ∧ u.cell? ⟨w.heap.size, 1, none⟩ = some (.int .i64 b) ∧ u.cell? ⟨w.heap.size, 2, none⟩ = some (.int .i64 c) ∧ u.cell? ⟨w.heap.size, 3, none⟩ = some (.int .i64 d) ∧ u.cell? ⟨w.heap.size, 4, none⟩ = some (.int .i64 e) ∧ u.cell? ⟨w.heap.size, 5, none⟩ = some (.int .i64 f) ∧ Below W.heap.size W u) → Below W.heap.size W u := fun u h => h.2.2.2.2.2.2
  go_region_held3 (fun u => u.cell? ⟨w.heap.size, 0, none⟩ = some (.int .i64 a) ∧ u.cell? ⟨w.heap.size, 1, none⟩ = some (.int .i64 b) ∧ u.cell? ⟨w.heap.size, 2, none⟩ = some (.int .i64 c) ∧ u.cell? ⟨w.heap.size, 3, none⟩ = some (.int .i64 d) ∧ u.cell? ⟨w.heap.size, 4, none⟩ = some (.int .i64 e) ∧ u.cell? ⟨w.heap.size, 5, none⟩ = some (.int .i64 f) ∧ Below W.heap.size W u) ((refine k0 _ ?_; first | with_reducible exact (Below.refl _ _).drew | (with_reducible refine below_after (by assumption) ?_ (Nat.le_refl _); with_reducible exact (Below.refl _ _).drew))) (first | (go_at_call 133; go_fit (unhide HN _); rintro r w4 ⟨rfl, hb⟩))
  all_goals
    go_wp2_with fail
    go_ret
    exact ⟨ret_bool (unhide H), below_after (kS _ (by assumption)) (unhide HB) (Nat.le_refl _)⟩

end Go.Proofs.YtdbphpekhmlmdabGreat

/-
  The walk of the specification's Compose.
-/
namespace Go.Proofs.YtdbphpekhmlmdabGreat
open Go.RowKit

/-- One part of two mats taken together. -/
def crossI (a g c h : Int) : Int := rdivI (a * g + c * h) 65536

/-- What Compose answers of two right mats. -/
def compV (a b c d e f g h i j k l : Int) : Value :=
  bif matOkB (crossI a g c h) (crossI b g d h) (crossI a i c j) (crossI b i d j) (crossI a k c l + e) (crossI b k d l + f)
  then .tuple #[.agg #[.int .i64 (crossI a g c h), .int .i64 (crossI b g d h), .int .i64 (crossI a i c j), .int .i64 (crossI b i d j), .int .i64 (crossI a k c l + e), .int .i64 (crossI b k d l + f)], .bool true]
  else .tuple #[.agg #[.int .i64 0, .int .i64 0, .int .i64 0, .int .i64 0, .int .i64 0, .int .i64 0], .bool false]

theorem ret_mb {a b c d e f a' b' c' d' e' f' : Int} {p : Bool} (h1 : a = a') (h2 : b = b') (h3 : c = c') (h4 : d = d') (h5 : e = e') (h6 : f = f') : Ending.returned (.tuple #[.agg #[.int .i64 a, .int .i64 b, .int .i64 c, .int .i64 d, .int .i64 e, .int .i64 f], .bool p]) = .returned (.tuple #[.agg #[.int .i64 a', .int .i64 b', .int .i64 c', .int .i64 d', .int .i64 e', .int .i64 f'], .bool p]) := by rw [h1, h2, h3, h4, h5, h6]

set_option maxHeartbeats 1000000 in
set_option maxRecDepth 100000 in
theorem specCompose_no (a b c d e f g h i j k l : Int) (hno : (matOkB a b c d e f && matOkB g h i j k l) = false) (w : World) :
    Calls Tryz.prog 44 #[.agg #[.int .i64 a, .int .i64 b, .int .i64 c, .int .i64 d, .int .i64 e, .int .i64 f], .agg #[.int .i64 g, .int .i64 h, .int .i64 i, .int .i64 j, .int .i64 k, .int .i64 l]] w fun r w' => r = .returned (.tuple #[.agg #[.int .i64 0, .int .i64 0, .int .i64 0, .int .i64 0, .int .i64 0, .int .i64 0], .bool false]) ∧ Below w.heap.size w w' := by
  have HM := hide (specMatOk_any a b c d e f)
  have HP := hide (specMatOk_any g h i j k l)
  generalize matOkB a b c d e f = pm at HM hno
  generalize matOkB g h i j k l = pp at HP hno
  go_enter Tryz.func44, Tryz.ntmps44
  go_wp2_with fail
  refine (unhide HM _).mono ?_
  rintro r w1 ⟨rfl, hb1⟩
  have C1 := hide (below_ends (al3_below _ _ _ _) hb1 (by rw [al3_size]; omega))
  obtain ⟨p0, p1, p2, p3, p4, p5, hp⟩ := cells6 hb1 (al3_1 _ _ _ _) (by rw [al3_size]; omega)
  obtain ⟨r0, r1, r2, r3, r4, r5, hr⟩ := cells6 hb1 (al3_2 _ _ _ _) (by rw [al3_size]; omega)
  obtain ⟨f0, f1, f2, f3, f4, f5⟩ := free6 hr
  have hs : w.heap.size + 3 ≤ w1.heap.size := by have := hb1.size; rw [al3_size] at this; exact this
  have HR := hide hr
  clear hb1 hp hr
  cases pm
  · go_wp2_with fail
    refine bodyPost_ret (v := .tuple #[.agg #[.int .i64 0, .int .i64 0, .int .i64 0, .int .i64 0, .int .i64 0, .int .i64 0], .bool false]) (by simp [results, Tryz.results44, go_sem, r0, r1, r2, r3, r4, r5]) rfl ⟨rfl, ?_⟩
    exact below_put6 (unhide C1) (by omega) _ _ _ _ _ _
  · obtain rfl : pp = false := by simpa using hno
    go_wp2_with fail
    refine (unhide HP _).mono ?_
    rintro r w2 ⟨rfl, hb2⟩
    have C2 := hide (below_ends (unhide C1) hb2 (by omega))
    clear r0 r1 r2 r3 r4 r5 f0 f1 f2 f3 f4 f5
    obtain ⟨r0, r1, r2, r3, r4, r5, hr⟩ := cells6 hb2 (unhide HR) (by omega)
    obtain ⟨f0, f1, f2, f3, f4, f5⟩ := free6 hr
    clear hb2 hr
    go_wp2_with fail
    refine bodyPost_ret (v := .tuple #[.agg #[.int .i64 0, .int .i64 0, .int .i64 0, .int .i64 0, .int .i64 0, .int .i64 0], .bool false]) (by simp [results, Tryz.results44, go_sem, r0, r1, r2, r3, r4, r5]) rfl ⟨rfl, ?_⟩
    exact below_put6 (unhide C2) (by omega) _ _ _ _ _ _

set_option maxHeartbeats 4000000 in
set_option maxRecDepth 100000 in
theorem specCompose_yes (a b c d e f g h i j k l : Int) (hm : matOkB a b c d e f = true) (hn : matOkB g h i j k l = true) (w : World) :
    Calls Tryz.prog 44 #[.agg #[.int .i64 a, .int .i64 b, .int .i64 c, .int .i64 d, .int .i64 e, .int .i64 f], .agg #[.int .i64 g, .int .i64 h, .int .i64 i, .int .i64 j, .int .i64 k, .int .i64 l]] w fun r w' => r = .returned (compV a b c d e f g h i j k l) ∧ Below w.heap.size w w' := by
  have HM := hide (specMatOk_any a b c d e f)
  have HP := hide (specMatOk_any g h i j k l)
  rw [hm] at HM
  rw [hn] at HP
  obtain ⟨⟨a1, a2⟩, ⟨b1, b2⟩, ⟨c1, c2⟩, ⟨d1, d2⟩, ⟨e1, e2⟩, ⟨f1, f2⟩⟩ := mat_bd hm
  obtain ⟨⟨g1, g2⟩, ⟨h1, h2⟩, ⟨i1, i2⟩, ⟨j1, j2⟩, ⟨k1, k2⟩, ⟨l1, l2⟩⟩ := mat_bd hn
  clear hm hn
  obtain ⟨ag1, ag2⟩ := mul_bd a1 a2 g1 g2
  obtain ⟨ch1, ch2⟩ := mul_bd c1 c2 h1 h2
  obtain ⟨bg1, bg2⟩ := mul_bd b1 b2 g1 g2
  obtain ⟨dh1, dh2⟩ := mul_bd d1 d2 h1 h2
  obtain ⟨ai1, ai2⟩ := mul_bd a1 a2 i1 i2
  obtain ⟨cj1, cj2⟩ := mul_bd c1 c2 j1 j2
  obtain ⟨bi1, bi2⟩ := mul_bd b1 b2 i1 i2
  obtain ⟨dj1, dj2⟩ := mul_bd d1 d2 j1 j2
  obtain ⟨ak1, ak2⟩ := mul_bd a1 a2 k1 k2
  obtain ⟨cl1, cl2⟩ := mul_bd c1 c2 l1 l2
  obtain ⟨bk1, bk2⟩ := mul_bd b1 b2 k1 k2
  obtain ⟨dl1, dl2⟩ := mul_bd d1 d2 l1 l2
  have HA := hide (specRoundDiv_any (a * g + c * h) 65536 (by omega) (by omega) (by omega))
  have EA : Hid (rdivI (a * g + c * h) 65536 = crossI a g c h) := rfl
  obtain ⟨qA1, qA2⟩ := rdiv_bd (n := a * g + c * h) (m := 17592186044416) (by omega) (by omega)
  generalize rdivI (a * g + c * h) 65536 = qA at HA EA qA1 qA2
  have HB := hide (specRoundDiv_any (b * g + d * h) 65536 (by omega) (by omega) (by omega))
  have EB : Hid (rdivI (b * g + d * h) 65536 = crossI b g d h) := rfl
  obtain ⟨qB1, qB2⟩ := rdiv_bd (n := b * g + d * h) (m := 17592186044416) (by omega) (by omega)
  generalize rdivI (b * g + d * h) 65536 = qB at HB EB qB1 qB2
  have HC := hide (specRoundDiv_any (a * i + c * j) 65536 (by omega) (by omega) (by omega))
  have EC : Hid (rdivI (a * i + c * j) 65536 = crossI a i c j) := rfl
  obtain ⟨qC1, qC2⟩ := rdiv_bd (n := a * i + c * j) (m := 17592186044416) (by omega) (by omega)
  generalize rdivI (a * i + c * j) 65536 = qC at HC EC qC1 qC2
  have HD := hide (specRoundDiv_any (b * i + d * j) 65536 (by omega) (by omega) (by omega))
  have ED : Hid (rdivI (b * i + d * j) 65536 = crossI b i d j) := rfl
  obtain ⟨qD1, qD2⟩ := rdiv_bd (n := b * i + d * j) (m := 17592186044416) (by omega) (by omega)
  generalize rdivI (b * i + d * j) 65536 = qD at HD ED qD1 qD2
  have HE := hide (specRoundDiv_any (a * k + c * l) 65536 (by omega) (by omega) (by omega))
  have EE : Hid (rdivI (a * k + c * l) 65536 = crossI a k c l) := rfl
  obtain ⟨qE1, qE2⟩ := rdiv_bd (n := a * k + c * l) (m := 17592186044416) (by omega) (by omega)
  generalize rdivI (a * k + c * l) 65536 = qE at HE EE qE1 qE2
  have HF := hide (specRoundDiv_any (b * k + d * l) 65536 (by omega) (by omega) (by omega))
  have EF : Hid (rdivI (b * k + d * l) 65536 = crossI b k d l) := rfl
  obtain ⟨qF1, qF2⟩ := rdiv_bd (n := b * k + d * l) (m := 17592186044416) (by omega) (by omega)
  generalize rdivI (b * k + d * l) 65536 = qF at HF EF qF1 qF2
  have u1 : IntKind.i64.wrap (a * k) = a * k := IntWalk.i64_in _ (by omega)
  have u2 : IntKind.i64.wrap (c * l) = c * l := IntWalk.i64_in _ (by omega)
  have u3 : IntKind.i64.wrap (a * k + c * l) = a * k + c * l := IntWalk.i64_in _ (by omega)
  have u4 : IntKind.i64.wrap (qE + e) = qE + e := IntWalk.i64_in _ (by omega)
  have u5 : IntKind.i64.wrap (b * k) = b * k := IntWalk.i64_in _ (by omega)
  have u6 : IntKind.i64.wrap (d * l) = d * l := IntWalk.i64_in _ (by omega)
  have u7 : IntKind.i64.wrap (b * k + d * l) = b * k + d * l := IntWalk.i64_in _ (by omega)
  have u8 : IntKind.i64.wrap (qF + f) = qF + f := IntWalk.i64_in _ (by omega)
  have HO := hide (specMatOk_any qA qB qC qD (qE + e) (qF + f))
  have EO : Hid (matOkB qA qB qC qD (qE + e) (qF + f) = matOkB (crossI a g c h) (crossI b g d h) (crossI a i c j) (crossI b i d j) (crossI a k c l + e) (crossI b k d l + f)) := by unfold Hid; rw [unhide EA, unhide EB, unhide EC, unhide ED, unhide EE, unhide EF]
  generalize matOkB qA qB qC qD (qE + e) (qF + f) = po at HO EO
  go_enter Tryz.func44, Tryz.ntmps44
  go_wp2_with fail
  refine (unhide HM _).mono ?_
  rintro r w1 ⟨rfl, hb1⟩
  have C1 := hide (below_ends (al3_below _ _ _ _) hb1 (by rw [al3_size]; omega))
  obtain ⟨_, _, _, _, _, _, hm⟩ := cells6 hb1 (al3_0 _ _ _ _) (by rw [al3_size]; omega)
  obtain ⟨p0, p1, p2, p3, p4, p5, hp⟩ := cells6 hb1 (al3_1 _ _ _ _) (by rw [al3_size]; omega)
  obtain ⟨_, _, _, _, _, _, hr⟩ := cells6 hb1 (al3_2 _ _ _ _) (by rw [al3_size]; omega)
  have hs : w.heap.size + 3 ≤ w1.heap.size := by have := hb1.size; rw [al3_size] at this; exact this
  have H1 := hide (And.intro hm (And.intro hp hr))
  clear hb1 hp hr hm
  go_wp2_with fail
  refine (unhide HP _).mono ?_
  rintro r w2 ⟨rfl, hb2⟩
  clear p0 p1 p2 p3 p4 p5
  have C2 := hide (below_ends (unhide C1) hb2 (by omega))
  obtain ⟨m0, m1, m2, m3, m4, m5, _⟩ := cells6 hb2 (unhide H1).1 (by omega)
  obtain ⟨p0, p1, p2, p3, p4, p5, _⟩ := cells6 hb2 (unhide H1).2.1 (by omega)
  obtain ⟨r0, r1, r2, r3, r4, r5, hr⟩ := cells6 hb2 (unhide H1).2.2 (by omega)
  obtain ⟨g0, g1, g2, g3, g4, g5⟩ := free6 hr
  have hs2 : w.heap.size + 3 ≤ w2.heap.size := Nat.le_trans hs hb2.size
  obtain ⟨s0, s1, s2, s3, s4, s5⟩ := past6 (by omega) m0 m1 m2 m3 m4 m5
  obtain ⟨t0, t1, t2, t3, t4, t5⟩ := past6 (by omega) p0 p1 p2 p3 p4 p5
  have HR := hide hr
  clear hb2 hr
  go_wp2_with fail
  refine (unhide HA _).mono ?_
  rintro r w3 ⟨rfl, rfl⟩
  go_wp2_with fail
  refine (unhide HB _).mono ?_
  rintro r w3 ⟨rfl, rfl⟩
  go_wp2_with fail
  refine (unhide HC _).mono ?_
  rintro r w3 ⟨rfl, rfl⟩
  go_wp2_with fail
  refine (unhide HD _).mono ?_
  rintro r w3 ⟨rfl, rfl⟩
  go_wp2_with fail
  go_region_held3 (fun u => u.cell? ⟨w.heap.size, 0, none⟩ = some (.int .i64 a) ∧ u.cell? ⟨w.heap.size + 1, 4, none⟩ = some (.int .i64 k) ∧ u.cell? ⟨w.heap.size, 2, none⟩ = some (.int .i64 c) ∧ u.cell? ⟨w.heap.size + 1, 5, none⟩ = some (.int .i64 l) ∧ u.cell? ⟨w.heap.size, 4, none⟩ = some (.int .i64 e)) (go_keep) (first | (go_at_call 84; refine (unhide HE _).mono ?_; rintro r w3 ⟨rfl, rfl⟩))
  go_wp2_with fail
  go_region_held3 (fun u => u.cell? ⟨w.heap.size, 1, none⟩ = some (.int .i64 b) ∧ u.cell? ⟨w.heap.size + 1, 4, none⟩ = some (.int .i64 k) ∧ u.cell? ⟨w.heap.size, 3, none⟩ = some (.int .i64 d) ∧ u.cell? ⟨w.heap.size + 1, 5, none⟩ = some (.int .i64 l) ∧ u.cell? ⟨w.heap.size, 5, none⟩ = some (.int .i64 f)) (go_keep) (first | (go_at_call 84; refine (unhide HF _).mono ?_; rintro r w3 ⟨rfl, rfl⟩))
  go_wp2_with fail
  refine (unhide HO _).mono ?_
  rintro r w3 ⟨rfl, hb3'⟩
  have hb3 := below_undrew (below_undrew hb3')
  have C3 := hide (below_ends ((unhide C2).alloc (by omega) _) hb3 (by rw [al1_size]; omega))
  obtain ⟨o0, o1, o2, o3, o4, o5, _⟩ := cells6 hb3 (al1_0 _ _) (by rw [al1_size]; omega)
  obtain ⟨r0, r1, r2, r3, r4, r5, hr⟩ := cells6 hb3 ((heap_alloc_old _ _ (by omega)).trans (unhide HR)) (by rw [al1_size]; omega)
  obtain ⟨v0, v1, v2, v3, v4, v5⟩ := free6 hr
  clear hb3 hb3' hr s0 s1 s2 s3 s4 s5 t0 t1 t2 t3 t4 t5 u1 u2 u3 u4 u5 u6 u7 u8
  cases po
  · have HV : Hid (compV a b c d e f g h i j k l = .tuple #[.agg #[.int .i64 0, .int .i64 0, .int .i64 0, .int .i64 0, .int .i64 0, .int .i64 0], .bool false]) := by unfold Hid compV; rw [← unhide EO]; rfl
    go_wp2_with fail
    refine bodyPost_ret (v := .tuple #[.agg #[.int .i64 0, .int .i64 0, .int .i64 0, .int .i64 0, .int .i64 0, .int .i64 0], .bool false]) (by simp [results, Tryz.results44, go_sem, r0, r1, r2, r3, r4, r5]) rfl ⟨by rw [unhide HV], ?_⟩
    exact below_put6 (unhide C3) (by omega) _ _ _ _ _ _
  · have HV : Hid (compV a b c d e f g h i j k l = .tuple #[.agg #[.int .i64 qA, .int .i64 qB, .int .i64 qC, .int .i64 qD, .int .i64 (qE + e), .int .i64 (qF + f)], .bool true]) := by unfold Hid compV; rw [← unhide EO, unhide EA, unhide EB, unhide EC, unhide ED, unhide EE, unhide EF]; rfl
    go_wp2_with fail
    refine bodyPost_ret (v := .tuple #[.agg #[.int .i64 qA, .int .i64 qB, .int .i64 qC, .int .i64 qD, .int .i64 (qE + e), .int .i64 (qF + f)], .bool true]) (by simp [results, Tryz.results44, go_sem, r0, r1, r2, r3, r4, r5]) rfl ⟨by rw [unhide HV], ?_⟩
    exact below_put6 (unhide C3) (by omega) _ _ _ _ _ _
end Go.Proofs.YtdbphpekhmlmdabGreat

/-
  The walk of the program's turn.
-/
namespace Go.Proofs.YtdbphpekhmlmdabGreat
open Go.RowKit

theorem cross_bd {a c x y : Int} (a1 : -1048576 ≤ a) (a2 : a ≤ 1048576) (c1 : -1048576 ≤ c) (c2 : c ≤ 1048576) (x1 : -8388608 ≤ x) (x2 : x ≤ 8388608) (y1 : -8388608 ≤ y) (y2 : y ≤ 8388608) : -17592186044417 ≤ crossI a x c y ∧ crossI a x c y ≤ 17592186044417 := by
  obtain ⟨ax1, ax2⟩ := mul_bd a1 a2 x1 x2
  obtain ⟨cy1, cy2⟩ := mul_bd c1 c2 y1 y2
  obtain ⟨h1, h2⟩ := rdiv_bd (n := a * x + c * y) (m := 17592186044416) (by omega) (by omega)
  exact ⟨h1, h2⟩

set_option maxHeartbeats 8000000 in
set_option maxRecDepth 100000 in
theorem implTurn_any (a b c d e f x y : Int) (a1 : -1048576 ≤ a) (a2 : a ≤ 1048576) (b1 : -1048576 ≤ b) (b2 : b ≤ 1048576) (c1 : -1048576 ≤ c) (c2 : c ≤ 1048576) (d1 : -1048576 ≤ d) (d2 : d ≤ 1048576) (x1 : -8388608 ≤ x) (x2 : x ≤ 8388608) (y1 : -8388608 ≤ y) (y2 : y ≤ 8388608) (w : World) :
    Calls Tryz.prog 129 #[.agg #[.int .i64 a, .int .i64 b, .int .i64 c, .int .i64 d, .int .i64 e, .int .i64 f], .agg #[.int .i64 x, .int .i64 y]] w fun r w' => r = .returned (.agg #[.int .i64 (crossI a x c y), .int .i64 (crossI b x d y)]) ∧ Below w.heap.size w w' := by
  obtain ⟨ax1, ax2⟩ := mul_bd a1 a2 x1 x2
  obtain ⟨cy1, cy2⟩ := mul_bd c1 c2 y1 y2
  obtain ⟨bx1, bx2⟩ := mul_bd b1 b2 x1 x2
  obtain ⟨dy1, dy2⟩ := mul_bd d1 d2 y1 y2
  have HX := hide (implRoundDiv_any (a * x + c * y) 65536 (by omega) (by omega) (by omega))
  have HY := hide (implRoundDiv_any (b * x + d * y) 65536 (by omega) (by omega) (by omega))
  have EX : Hid (rdivI (a * x + c * y) 65536 = crossI a x c y) := rfl
  have EY : Hid (rdivI (b * x + d * y) 65536 = crossI b x d y) := rfl
  generalize rdivI (a * x + c * y) 65536 = qx at HX EX
  generalize rdivI (b * x + d * y) 65536 = qy at HY EY
  have u1 : IntKind.i64.wrap (a * x) = a * x := IntWalk.i64_in _ (by omega)
  have u2 : IntKind.i64.wrap (c * y) = c * y := IntWalk.i64_in _ (by omega)
  have u3 : IntKind.i64.wrap (a * x + c * y) = a * x + c * y := IntWalk.i64_in _ (by omega)
  have u5 : IntKind.i64.wrap (b * x) = b * x := IntWalk.i64_in _ (by omega)
  have u6 : IntKind.i64.wrap (d * y) = d * y := IntWalk.i64_in _ (by omega)
  have u7 : IntKind.i64.wrap (b * x + d * y) = b * x + d * y := IntWalk.i64_in _ (by omega)
  clear ax1 ax2 cy1 cy2 bx1 bx2 dy1 dy2 a1 a2 b1 b2 c1 c2 d1 d2 x1 x2 y1 y2
  go_enter Tryz.func129, Tryz.ntmps129
  go_wp2_with fail
  obtain ⟨W, hW⟩ : ∃ W, W = ((w.alloc (.cells #[.int .i64 a, .int .i64 b, .int .i64 c, .int .i64 d, .int .i64 e, .int .i64 f] 43)).alloc (.cells #[.int .i64 x, .int .i64 y] 55)).alloc (.cells #[.int .i64 0, .int .i64 0] 55) := ⟨_, rfl⟩
  have A : W.heap[w.heap.size]? = some (.cells #[.int .i64 a, .int .i64 b, .int .i64 c, .int .i64 d, .int .i64 e, .int .i64 f] 43 (0, 0)) := by rw [hW]; exact al3_0 _ _ _ _
  have P : W.heap[w.heap.size + 1]? = some (.cells #[.int .i64 x, .int .i64 y] 55 (0, 0)) := by rw [hW]; exact al3_1 _ _ _ _
  have R : W.heap[w.heap.size + 1 + 1]? = some (.cells #[.int .i64 0, .int .i64 0] 55 (0, 0)) := by rw [hW]; exact al3_2 _ _ _ _
  have HB := hide (show Below w.heap.size w W by rw [hW]; exact al3_below _ _ _ _)
  rw [← hW]
  clear hW
  have B0 : w.heap.size + 2 ≤ W.heap.size := by have := heap_lt R; omega
  have k0 : ∀ u, Below (w.heap.size + 2) W u → (u.cell? ⟨w.heap.size, 0, none⟩ = some (.int .i64 a) ∧ u.cell? ⟨w.heap.size, 1, none⟩ = some (.int .i64 b) ∧ u.cell? ⟨w.heap.size, 2, none⟩ = some (.int .i64 c) ∧ u.cell? ⟨w.heap.size, 3, none⟩ = some (.int .i64 d) ∧ u.cell? ⟨w.heap.size + 1, 0, none⟩ = some (.int .i64 x) ∧ u.cell? ⟨w.heap.size + 1, 1, none⟩ = some (.int .i64 y) ∧ Below (w.heap.size + 2) W u) := fun u h => by
    have A' := (h.block _ (by omega)).trans A
    have P' := (h.block _ (by omega)).trans P
    obtain ⟨m0, m1, m2, m3, _, _⟩ := row6 A'
    obtain ⟨p0, p1⟩ := row2 P'
    exact ⟨m0, m1, m2, m3, p0, p1, h⟩
  have kS : ∀ u, (u.cell? ⟨w.heap.size, 0, none⟩ = some (.int .i64 a) ∧ u.cell? ⟨w.heap.size, 1, none⟩ = some (.int .i64 b) ∧ u.cell? ⟨w.heap.size, 2, none⟩ = some (.int .i64 c) ∧ u.cell? ⟨w.heap.size, 3, none⟩ = some (.int .i64 d) ∧ u.cell? ⟨w.heap.size + 1, 0, none⟩ = some (.int .i64 x) ∧ u.cell? ⟨w.heap.size + 1, 1, none⟩ = some (.int .i64 y) ∧ Below (w.heap.size + 2) W u) → Below (w.heap.size + 2) W u := fun u h => h.2.2.2.2.2.2
  have k1 : ∀ u, Below W.heap.size W u → u.cell? ⟨w.heap.size + 1 + 1, 0, none⟩ = some (.int .i64 0) ∧ u.cell? ⟨w.heap.size + 1 + 1, 1, none⟩ = some (.int .i64 0) ∧ u.frozen? ⟨w.heap.size + 1 + 1, 0, none⟩ = false ∧ u.frozen? ⟨w.heap.size + 1 + 1, 1, none⟩ = false := fun u h => by
    have R' := (h.block _ (heap_lt R)).trans R
    obtain ⟨r0, r1⟩ := row2 R'
    obtain ⟨f0, f1⟩ := free2 R'
    exact ⟨r0, r1, f0, f1⟩
  have HA := hide A
  have HP := hide P
  have HR := hide R
  clear A P R
  go_region_held3 (fun u => u.cell? ⟨w.heap.size, 0, none⟩ = some (.int .i64 a) ∧ u.cell? ⟨w.heap.size, 1, none⟩ = some (.int .i64 b) ∧ u.cell? ⟨w.heap.size, 2, none⟩ = some (.int .i64 c) ∧ u.cell? ⟨w.heap.size, 3, none⟩ = some (.int .i64 d) ∧ u.cell? ⟨w.heap.size + 1, 0, none⟩ = some (.int .i64 x) ∧ u.cell? ⟨w.heap.size + 1, 1, none⟩ = some (.int .i64 y) ∧ Below (w.heap.size + 2) W u) ((refine k0 _ ?_; first | with_reducible exact (Below.refl _ _).drew | with_reducible exact Below.mono (by assumption) B0 | (with_reducible refine below_put2 ?_ (Nat.le_refl _) _ _; with_reducible exact Below.mono (by assumption) B0))) (first | (go_at_call 153; go_fit (unhide HX _); rintro r w4 ⟨rfl, hb4⟩; have h4 := below_after hb4 (Below.refl W.heap.size W).drew (Nat.le_refl _)) | (go_at_call 153; go_fit (unhide HY _); rintro r w5 ⟨rfl, hb5⟩; have h5 := below_after hb5 h4 (Nat.le_refl _); obtain ⟨r0, r1, f0, f1⟩ := k1 _ h5; clear h4 hb4 hb5))
  all_goals
    go_wp2_with fail
    refine bodyPost_ret (v := .agg #[.int .i64 qx, .int .i64 qy]) (by simp [results, Tryz.results129, go_sem, r0, r1]) rfl ⟨ret_p (unhide EX) (unhide EY), ?_⟩
    exact below_put2 (below_two (unhide HB) h5) (by omega) _ _
end Go.Proofs.YtdbphpekhmlmdabGreat

/-
  The walk of the program's Apply.
-/
namespace Go.Proofs.YtdbphpekhmlmdabGreat
open Go.RowKit

set_option maxHeartbeats 1000000 in
set_option maxRecDepth 100000 in
theorem implApply_no (a b c d e f x y : Int) (h : (matOkB a b c d e f && pointOkB x y) = false) (w : World) :
    Calls Tryz.prog 102 #[.agg #[.int .i64 a, .int .i64 b, .int .i64 c, .int .i64 d, .int .i64 e, .int .i64 f], .agg #[.int .i64 x, .int .i64 y]] w fun r w' => r = .returned (.agg #[.int .i64 0, .int .i64 0]) ∧ Below w.heap.size w w' := by
  have HM := hide (implMatOk_any a b c d e f)
  have HP := hide (implPointOk_any x y)
  generalize matOkB a b c d e f = pm at HM h
  generalize pointOkB x y = pp at HP h
  go_enter Tryz.func102, Tryz.ntmps102
  go_wp2_with fail
  obtain ⟨W, hW⟩ : ∃ W, W = ((w.alloc (.cells #[.int .i64 a, .int .i64 b, .int .i64 c, .int .i64 d, .int .i64 e, .int .i64 f] 43)).alloc (.cells #[.int .i64 x, .int .i64 y] 55)).alloc (.cells #[.int .i64 0, .int .i64 0] 55) := ⟨_, rfl⟩
  have A : W.heap[w.heap.size]? = some (.cells #[.int .i64 a, .int .i64 b, .int .i64 c, .int .i64 d, .int .i64 e, .int .i64 f] 43 (0, 0)) := by rw [hW]; exact al3_0 _ _ _ _
  have P : W.heap[w.heap.size + 1]? = some (.cells #[.int .i64 x, .int .i64 y] 55 (0, 0)) := by rw [hW]; exact al3_1 _ _ _ _
  have R : W.heap[w.heap.size + 1 + 1]? = some (.cells #[.int .i64 0, .int .i64 0] 55 (0, 0)) := by rw [hW]; exact al3_2 _ _ _ _
  have HB := hide (show Below w.heap.size w W by rw [hW]; exact al3_below _ _ _ _)
  rw [← hW]
  clear hW
  obtain ⟨m0, m1, m2, m3, m4, m5⟩ := row6 A
  go_wp2_with fail
  refine (unhide HM _).mono ?_
  rintro r w1 ⟨rfl, hb⟩
  clear m0 m1 m2 m3 m4 m5
  replace A := (hb.block _ (heap_lt A)).trans A
  replace P := (hb.block _ (heap_lt P)).trans P
  replace R := (hb.block _ (heap_lt R)).trans R
  replace HB := hide (below_two (unhide HB) hb)
  clear hb
  cases pm
  · obtain ⟨r0, r1⟩ := row2 R
    obtain ⟨f0, f1⟩ := free2 R
    clear A P R
    go_wp2_with fail
    refine bodyPost_ret (v := .agg #[.int .i64 0, .int .i64 0]) (by simp [results, Tryz.results102, go_sem, r0, r1]) rfl ⟨rfl, ?_⟩
    exact below_put2 (unhide HB) (by omega) _ _
  obtain rfl : pp = false := by simpa using h
  obtain ⟨p0, p1⟩ := row2 P
  go_wp2_with fail
  refine (unhide HP _).mono ?_
  rintro r w2 ⟨rfl, hb⟩
  clear p0 p1
  replace A := (hb.block _ (heap_lt A)).trans A
  replace P := (hb.block _ (heap_lt P)).trans P
  replace R := (hb.block _ (heap_lt R)).trans R
  replace HB := hide (below_two (unhide HB) hb)
  clear hb
  obtain ⟨r0, r1⟩ := row2 R
  obtain ⟨f0, f1⟩ := free2 R
  clear A P R
  go_wp2_with fail
  refine bodyPost_ret (v := .agg #[.int .i64 0, .int .i64 0]) (by simp [results, Tryz.results102, go_sem, r0, r1]) rfl ⟨rfl, ?_⟩
  exact below_put2 (unhide HB) (by omega) _ _

set_option maxHeartbeats 2000000 in
set_option maxRecDepth 100000 in
theorem implApply_yes (a b c d e f x y : Int) (hm : matOkB a b c d e f = true) (hp : pointOkB x y = true) (w : World) :
    Calls Tryz.prog 102 #[.agg #[.int .i64 a, .int .i64 b, .int .i64 c, .int .i64 d, .int .i64 e, .int .i64 f], .agg #[.int .i64 x, .int .i64 y]] w fun r w' => r = .returned (.agg #[.int .i64 (moveI a x c y e), .int .i64 (moveI b x d y f)]) ∧ Below w.heap.size w w' := by
  have HM := hide (implMatOk_any a b c d e f)
  have HP := hide (implPointOk_any x y)
  rw [hm] at HM
  rw [hp] at HP
  obtain ⟨⟨a1, a2⟩, ⟨b1, b2⟩, ⟨c1, c2⟩, ⟨d1, d2⟩, ⟨e1, e2⟩, ⟨f1, f2⟩⟩ := mat_bd hm
  obtain ⟨⟨x1, x2⟩, ⟨y1, y2⟩⟩ := point_bd hp
  have HT := hide (implTurn_any a b c d e f x y a1 a2 b1 b2 c1 c2 d1 d2 x1 x2 y1 y2)
  obtain ⟨qx1, qx2⟩ := cross_bd a1 a2 c1 c2 x1 x2 y1 y2
  obtain ⟨qy1, qy2⟩ := cross_bd b1 b2 d1 d2 x1 x2 y1 y2
  have HN := hide (implNearPoint_any (crossI a x c y + e) (crossI b x d y + f))
  have EX : Hid (clampI (crossI a x c y + e) (-8388608) 8388608 = moveI a x c y e) := rfl
  have EY : Hid (clampI (crossI b x d y + f) (-8388608) 8388608 = moveI b x d y f) := rfl
  generalize crossI a x c y = qx at HT HN EX qx1 qx2
  generalize crossI b x d y = qy at HT HN EY qy1 qy2
  generalize clampI (qx + e) (-8388608) 8388608 = kx at HN EX
  generalize clampI (qy + f) (-8388608) 8388608 = ky at HN EY
  have u4 : IntKind.i64.wrap (qx + e) = qx + e := IntWalk.i64_in _ (by omega)
  have u8 : IntKind.i64.wrap (qy + f) = qy + f := IntWalk.i64_in _ (by omega)
  clear hm hp a1 a2 b1 b2 c1 c2 d1 d2 x1 x2 y1 y2 e1 e2 f1 f2 qx1 qx2 qy1 qy2
  go_enter Tryz.func102, Tryz.ntmps102
  go_wp2_with fail
  obtain ⟨W, hW⟩ : ∃ W, W = ((w.alloc (.cells #[.int .i64 a, .int .i64 b, .int .i64 c, .int .i64 d, .int .i64 e, .int .i64 f] 43)).alloc (.cells #[.int .i64 x, .int .i64 y] 55)).alloc (.cells #[.int .i64 0, .int .i64 0] 55) := ⟨_, rfl⟩
  have A : W.heap[w.heap.size]? = some (.cells #[.int .i64 a, .int .i64 b, .int .i64 c, .int .i64 d, .int .i64 e, .int .i64 f] 43 (0, 0)) := by rw [hW]; exact al3_0 _ _ _ _
  have P : W.heap[w.heap.size + 1]? = some (.cells #[.int .i64 x, .int .i64 y] 55 (0, 0)) := by rw [hW]; exact al3_1 _ _ _ _
  have R : W.heap[w.heap.size + 1 + 1]? = some (.cells #[.int .i64 0, .int .i64 0] 55 (0, 0)) := by rw [hW]; exact al3_2 _ _ _ _
  have HB := hide (show Below w.heap.size w W by rw [hW]; exact al3_below _ _ _ _)
  rw [← hW]
  clear hW
  obtain ⟨m0, m1, m2, m3, m4, m5⟩ := row6 A
  go_wp2_with fail
  refine (unhide HM _).mono ?_
  rintro r w1 ⟨rfl, hb⟩
  clear m0 m1 m2 m3 m4 m5
  replace A := (hb.block _ (heap_lt A)).trans A
  replace P := (hb.block _ (heap_lt P)).trans P
  replace R := (hb.block _ (heap_lt R)).trans R
  replace HB := hide (below_two (unhide HB) hb)
  clear hb
  obtain ⟨p0, p1⟩ := row2 P
  go_wp2_with fail
  refine (unhide HP _).mono ?_
  rintro r w2 ⟨rfl, hb⟩
  clear p0 p1
  replace A := (hb.block _ (heap_lt A)).trans A
  replace P := (hb.block _ (heap_lt P)).trans P
  replace R := (hb.block _ (heap_lt R)).trans R
  replace HB := hide (below_two (unhide HB) hb)
  clear hb
  obtain ⟨m0, m1, m2, m3, m4, m5⟩ := row6 A
  obtain ⟨p0, p1⟩ := row2 P
  go_wp2_with fail
  refine (unhide HT _).mono ?_
  rintro r w3 ⟨rfl, hb⟩
  clear m0 m1 m2 m3 m4 m5 p0 p1
  replace A := (hb.block _ (heap_lt A)).trans A
  replace P := (hb.block _ (heap_lt P)).trans P
  replace R := (hb.block _ (heap_lt R)).trans R
  replace HB := hide (below_two (unhide HB) hb)
  clear hb
  obtain ⟨m0, m1, m2, m3, m4, m5⟩ := row6 A
  have hlt := heap_lt A
  obtain ⟨s0, s1, s2, s3, s4, s5⟩ := past6 hlt m0 m1 m2 m3 m4 m5
  go_wp2_with fail
  obtain ⟨W3, hW3⟩ : ∃ W3, W3 = w3.alloc (.cells #[.int .i64 qx, .int .i64 qy] 55) := ⟨_, rfl⟩
  replace R : W3.heap[w.heap.size + 1 + 1]? = some (.cells #[.int .i64 0, .int .i64 0] 55 (0, 0)) := by rw [hW3]; exact (heap_alloc_old _ _ (heap_lt R)).trans R
  replace HB := hide (show Below w.heap.size w W3 by rw [hW3]; exact below_two (unhide HB) (al1_below _ _))
  rw [← hW3]
  clear hW3 A P
  refine (unhide HN _).mono ?_
  rintro r w4 ⟨rfl, hb⟩
  replace R := (hb.block _ (heap_lt R)).trans R
  replace HB := hide (below_two (unhide HB) hb)
  clear hb s0 s1 s2 s3 s4 s5 m0 m1 m2 m3 m4 m5
  obtain ⟨r0, r1⟩ := row2 R
  obtain ⟨f0, f1⟩ := free2 R
  clear R
  go_wp2_with fail
  refine bodyPost_ret (v := .agg #[.int .i64 kx, .int .i64 ky]) (by simp [results, Tryz.results102, go_sem, r0, r1]) rfl ⟨ret_p (unhide EX) (unhide EY), ?_⟩
  exact below_put2 (unhide HB) (by omega) _ _
end Go.Proofs.YtdbphpekhmlmdabGreat

/-
  What Apply answers at any argument, on both sides.
-/
namespace Go.Proofs.YtdbphpekhmlmdabGreat
open Go.RowKit

/-- What Apply answers. -/
def applyX (a b c d e f x y : Int) : Int := bif (matOkB a b c d e f && pointOkB x y) then moveI a x c y e else 0
def applyY (a b c d e f x y : Int) : Int := bif (matOkB a b c d e f && pointOkB x y) then moveI b x d y f else 0

theorem specApply_any (a b c d e f x y : Int) (w : World) :
    Calls Tryz.prog 50 #[.agg #[.int .i64 a, .int .i64 b, .int .i64 c, .int .i64 d, .int .i64 e, .int .i64 f], .agg #[.int .i64 x, .int .i64 y]] w fun r w' => r = .returned (.agg #[.int .i64 (applyX a b c d e f x y), .int .i64 (applyY a b c d e f x y)]) ∧ Below w.heap.size w w' := by
  unfold applyX applyY
  cases h : (matOkB a b c d e f && pointOkB x y)
  · exact specApply_no a b c d e f x y h w
  · rw [Bool.and_eq_true] at h
    exact specApply_yes a b c d e f x y h.1 h.2 w

theorem implApply_any (a b c d e f x y : Int) (w : World) :
    Calls Tryz.prog 102 #[.agg #[.int .i64 a, .int .i64 b, .int .i64 c, .int .i64 d, .int .i64 e, .int .i64 f], .agg #[.int .i64 x, .int .i64 y]] w fun r w' => r = .returned (.agg #[.int .i64 (applyX a b c d e f x y), .int .i64 (applyY a b c d e f x y)]) ∧ Below w.heap.size w w' := by
  unfold applyX applyY
  cases h : (matOkB a b c d e f && pointOkB x y)
  · exact implApply_no a b c d e f x y h w
  · rw [Bool.and_eq_true] at h
    exact implApply_yes a b c d e f x y h.1 h.2 w
end Go.Proofs.YtdbphpekhmlmdabGreat

/-
  The specification's MovePath.
-/
namespace Go.Proofs.YtdbphpekhmlmdabGreat
open Go.RowKit

def mvP (A B C D E F : Int) (p : Int × Int) : Int × Int := (applyX A B C D E F p.1 p.2, applyY A B C D E F p.1 p.2)
def okN (ok : Bool) (n : Nat) : Nat := bif ok then n else 0

set_option maxHeartbeats 8000000 in
set_option maxRecDepth 100000 in
theorem specMovePath_any (A B C D E F : Int) (vf : Nat → Int) (pf : Nat → Int × Int) (s0 o0 : Nat) (b : Option Addr) (n c m d : Nat) (hn : n ≤ 1048576) (hm : m ≤ 1048576) (w : World)
    (x : Bool) (hx : x = true ↔ Right vf n pf m) (V : ∀ i, i < n → IntAt w (some ⟨s0, o0, none⟩) i (vf i)) (P : ∀ i, i < m → PtArg w b i (pf i)) :
    Calls Tryz.prog 20 #[.agg #[.int .i64 A, .int .i64 B, .int .i64 C, .int .i64 D, .int .i64 E, .int .i64 F], .agg #[.slice (some ⟨s0, o0, none⟩) n c, .slice b m d]] w fun r w' =>
      PathRes w r w' (okN (x && matOkB A B C D E F) n) (okN (x && matOkB A B C D E F) m) vf (fun i => mvP A B C D E F (pf i)) := by
  obtain ⟨i1, hi1, hz1, hs1, hb1⟩ := info_parts Tryz.info3
  obtain ⟨i2, hi2, hz2, hs2, hb2⟩ := info_parts infoPoint
  have EO := hide (fun u V P => specPathOk_any vf pf (some ⟨s0, o0, none⟩) b n c m d hn hm u x hx V P)
  have EM := hide (specMatOk_any A B C D E F)
  have EA := hide (fun x y => specApply_any A B C D E F x y)
  generalize matOkB A B C D E F = y at EM ⊢
  replace V := hide V
  replace P := hide P
  replace hx := hide hx
  go_enter Tryz.func20, Tryz.ntmps20
  go_wp2_with fail
  obtain ⟨W, hW⟩ : ∃ W, W = ((w.alloc (.cells #[.int .i64 A, .int .i64 B, .int .i64 C, .int .i64 D, .int .i64 E, .int .i64 F] 43)).alloc (.cells #[.slice (some ⟨s0, o0, none⟩) n c, .slice b m d] 50)).alloc (.cells #[.slice none 0 0, .slice none 0 0] 50) := ⟨_, rfl⟩
  have HB := hide (show Below w.heap.size w W by rw [hW]; exact al3_below _ _ _ _)
  have R0 := hide (show W.heap[w.heap.size]? = some (.cells #[.int .i64 A, .int .i64 B, .int .i64 C, .int .i64 D, .int .i64 E, .int .i64 F] 43 (0, 0)) by rw [hW]; exact al3_0 _ _ _ _)
  have R1 := hide (show W.heap[w.heap.size + 1]? = some (.cells #[.slice (some ⟨s0, o0, none⟩) n c, .slice b m d] 50 (0, 0)) by rw [hW]; exact al3_1 _ _ _ _)
  have R2 := hide (show W.heap[w.heap.size + 1 + 1]? = some (.cells #[.slice none 0 0, .slice none 0 0] 50 (0, 0)) by rw [hW]; exact al3_2 _ _ _ _)
  rw [← hW]
  clear hW
  go_fit (unhide EO _ (fun i hi => (unhide V i hi).next (unhide HB)) (fun i hi => (unhide P i hi).next (unhide HB)))
  rintro r w1 ⟨rfl, hb⟩
  replace HB := hide (below_two (unhide HB) hb)
  replace R0 := hide (row_next hb (unhide R0))
  replace R1 := hide (row_next hb (unhide R1))
  replace R2 := hide (row_next hb (unhide R2))
  clear hb EO
  cases x with
  | false =>
    obtain ⟨f0, f1⟩ := free2 (unhide R2)
    obtain ⟨c0, c1⟩ := row2 (unhide R2)
    go_wp2_with fail
    refine bodyPost_ret (v := .agg #[.slice none 0 0, .slice none 0 0]) (by simp [results, Tryz.results20, go_sem, c0, c1]) rfl ?_
    exact res_none (below_put2 (unhide HB) (by omega) _ _)
  | true =>
  obtain ⟨q0, q1, q2, q3, q4, q5⟩ := row6 (unhide R0)
  go_wp2_with fail
  go_fit (unhide EM _)
  rintro r w2 ⟨rfl, hb⟩
  replace HB := hide (below_two (unhide HB) hb)
  replace R0 := hide (row_next hb (unhide R0))
  replace R1 := hide (row_next hb (unhide R1))
  replace R2 := hide (row_next hb (unhide R2))
  clear hb EM q0 q1 q2 q3 q4 q5
  cases y with
  | false =>
    obtain ⟨f0, f1⟩ := free2 (unhide R2)
    obtain ⟨c0, c1⟩ := row2 (unhide R2)
    go_wp2_with fail
    refine bodyPost_ret (v := .agg #[.slice none 0 0, .slice none 0 0]) (by simp [results, Tryz.results20, go_sem, c0, c1]) rfl ?_
    exact res_none (below_put2 (unhide HB) (by omega) _ _)
  | true =>
  obtain ⟨c0, c1⟩ := row2 (old_row (.cells #[] 3) (unhide R1))
  have oE := hide (show (w2.alloc (.cells #[] 3)).ownsRow w2.heap.size 3 1 (.slice (some ⟨w2.heap.size, 0, none⟩) 0 0) 0 [] from World.ownsRow_lit w2 #[] 0 (Nat.le_refl _) (by decide) rfl)
  have VE := hide (int_cells (fun i hi => ((unhide V i hi).next (unhide HB)).next (al1_below w2 (.cells #[] 3))))
  go_wp2_with (at_builtin; go_must (refine wpList_append_own (w2.alloc (.cells #[] 3)) rfl _ _ 47 rfl w2.heap.size 3 i1 (.int .i64 0) 1 8 Tryz.underlying47 hi1 hz1 hs1 hb1 rfl (by decide) _ 0 [] (by rfl) (unhide oE) ⟨s0, o0, none⟩ n c ((listN vf n).map Iv) (by rfl) (by simp [listN]) (unhide VE) (Iv_one _) (by unfold maxLen; omega) (by omega) (by simp) ?_); intro v1 w3 ho hg _; rw [Nat.zero_add, List.nil_append] at ho; obtain ⟨av, cv, rfl⟩ := own_form ho; have O1 := hide ho; have G3 := hide hg; have O3 := hide hg; have lv3 := hide (fun k hk => (ho.lt k hk).2); clear ho hg)
  replace G3 := hide (below_of_grown (B := w2.heap.size) (unhide G3) (by simp) (fun k hk => by simp [Value.ownBlock] at hk; omega))
  replace G3 := hide ((al1_below w2 (.cells #[] 3)).trans (unhide G3))
  clear VE oE c0 c1
  obtain ⟨W4, hW⟩ : ∃ W, W = w3.alloc (.cells #[.slice av n cv, .slice none 0 0] 50) := ⟨_, rfl⟩
  have hn4 := hide (show Below w2.heap.size w2 W4 by rw [hW]; exact below_new _ (unhide G3) (Nat.le_refl _))
  have R3 := hide (show W4.heap[w3.heap.size]? = some (.cells #[.slice av n cv, .slice none 0 0] 50 (0, 0)) by rw [hW]; exact new_row _ _)
  replace O1 := hide (show W4.ownsRow w2.heap.size 3 1 (.slice av n cv) n ((listN vf n).map Iv) by rw [hW]; exact (unhide O1).alloc _)
  have sz4 := hide (show W4.heap.size = w3.heap.size + 1 by rw [hW]; simp)
  rw [← hW]
  clear hW G3
  have lb := hide (unhide HB).size
  have lo := hide (show w2.heap.size ≤ w3.heap.size by have := (unhide O3).size; simp at this; omega)
  replace HB := hide (below_two (unhide HB) (unhide hn4))
  have l0 := heap_lt (unhide R0)
  have l1 := heap_lt (unhide R1)
  have l2 := heap_lt (unhide R2)
  have lw2 := (unhide HB).size
  have l3 : w3.heap.size < W4.heap.size := heap_lt (unhide R3)
  have l4 := (unhide hn4).size
  replace R0 := hide (row_next (unhide hn4) (unhide R0))
  replace R1 := hide (row_next (unhide hn4) (unhide R1))
  replace R2 := hide (row_next (unhide hn4) (unhide R2))
  replace l3 := hide l3
  replace lw2 := hide lw2
  have lv := hide (show ∀ k, (Value.slice av n cv).ownBlock = some k → k < w3.heap.size from fun k hk => (unhide lv3 k hk))
  clear hn4 l4 lv3 O3
  have B4 : Hid (W4.heap.size = w3.heap.size + 1) := unhide sz4
  clear sz4
  have l0' : w.heap.size < w3.heap.size := Nat.lt_of_lt_of_le l0 (unhide lo)
  have l1' : w.heap.size + 1 < w3.heap.size := Nat.lt_of_lt_of_le l1 (unhide lo)
  have l2' : w.heap.size + 1 + 1 < w3.heap.size := Nat.lt_of_lt_of_le l2 (unhide lo)
  generalize w3.heap.size = ob at l0' l1' l2' R3 l3 lv lo B4 ⊢
  have lz := hide l2
  clear l0 l1 l2
  go_loopw [6] (fun i u => ∃ (k : Nat) (p : Option Addr) (cp : Nat), k ≤ m ∧ i = .int .i64 k ∧ u.heap[w.heap.size]? = some (.cells #[.int .i64 A, .int .i64 B, .int .i64 C, .int .i64 D, .int .i64 E, .int .i64 F] 43 (0, 0)) ∧ u.heap[w.heap.size + 1]? = some (.cells #[.slice (some ⟨s0, o0, none⟩) n c, .slice b m d] 50 (0, 0)) ∧ u.heap[w.heap.size + 1 + 1]? = some (.cells #[.slice none 0 0, .slice none 0 0] 50 (0, 0)) ∧ u.heap[ob]? = some (.cells #[.slice av n cv, .slice p k cp] 50 (0, 0)) ∧ u.ownsRow w2.heap.size 3 1 (.slice av n cv) n ((listN vf n).map Iv) ∧ u.ownsRow W4.heap.size 55 2 (.slice p k cp) k (ptsV (listN (fun i => mvP A B C D E F (pf i)) k)) ∧ Below w.heap.size w u ∧ ob + 1 ≤ u.heap.size) (fun i _ => m - (intOf i).toNat)
  case atStart => exact ⟨0, none, 0, Nat.zero_le _, rfl, unhide R0, unhide R1, unhide R2, unhide R3, unhide O1, World.ownsRow_nil _ _ _ _, unhide HB, by rw [unhide B4]; exact Nat.le_refl _⟩
  case round =>
    clear R0 R1 R2 R3 O1 HB
    obtain ⟨k, p, cp, hk, rfl, R0, R1, R2, R3, O1, O2, hb, hsz⟩ := hrel
    by_cases hlt : k < m
    · have HZ := (unhide P k hlt).next hb
      have ez : Hid (listN (fun i => mvP A B C D E F (pf i)) (k + 1) = listN (fun i => mvP A B C D E F (pf i)) k ++ [mvP A B C D E F (pf k)]) := listN_more _ _
      generalize hl : listN (fun i => mvP A B C D E F (pf i)) k = l at O2 ez
      have hll : l.length = k := by rw [← hl]; exact listN_len _ _
      replace hl := hide hl
      generalize pf k = z at HZ ez
      obtain ⟨x0, y0⟩ := z
      obtain ⟨s, o, rfl, g0, g1⟩ := HZ
      dsimp only at g0 g1
      have EA' := hide (unhide EA x0 y0)
      change Hid (listN (fun i => mvP A B C D E F (pf i)) (k + 1) = l ++ [(applyX A B C D E F x0 y0, applyY A B C D E F x0 y0)]) at ez
      generalize applyX A B C D E F x0 y0 = X at EA' ez
      generalize applyY A B C D E F x0 y0 = Y at EA' ez
      obtain ⟨q0, q1, q2, q3, q4, q5⟩ := row6 R0
      obtain ⟨t0, t1⟩ := row2 R1
      obtain ⟨u0, u1⟩ := row2 R3
      replace R0 := hide R0
      replace R1 := hide R1
      replace R2 := hide R2
      replace R3 := hide R3
      replace O1 := hide O1
      replace O2 := hide O2
      have HB := hide hb
      clear hb
      replace hsz := hide hsz
      go_wp2_with fail
      go_region_law (first | (refine step_call rfl 50 _ (by go_simp) (unhide EA' _) ?_; rintro r w5 ⟨rfl, hb5⟩; refine ⟨_, rfl, ?_⟩; have z1 := kc hb5 u1; have z2 := kn (.cells #[.int .i64 X, .int .i64 Y] 55) z1; have D5 := hide (show Below wr.heap.size wr w5 from below_undrew hb5)) | (refine step_append_any rfl _ _ 48 55 rfl W4.heap.size i2 (.agg #[.int .i64 0, .int .i64 0]) 2 16 Tryz.underlying48 hi2 hz2 hs2 hb2 rfl (by decide) (.slice p k cp) k (ptsV l) (by rfl) ((own_below (unhide O2) (unhide D5)).alloc _) ⟨w5.heap.size, 0, none⟩ 1 1 (ptV (X, Y)) (by rfl) (by rfl) (pt_cells w5 X Y _) (pt_one X Y) (by unfold maxLen; omega) (by omega) wr (ob + 1) (by rw [unhide B4]; exact Nat.le_refl _) (by rw [unhide B4]; have h1 := (unhide D5).size; have h2 := unhide hsz; simp; omega) (below_new _ ((unhide D5).mono (unhide hsz)) (unhide hsz)) ?_; intro v' w6 O6 D6; obtain ⟨p', cp', rfl⟩ := own_form O6; have R6 := hide ((D6.block ob (Nat.lt_succ_self _)).trans (unhide R3)); obtain ⟨h0, h1⟩ := row2 (unhide R6); obtain ⟨f0, f1⟩ := free2 (unhide R6); replace O6 := hide O6; replace D6 := hide D6))
      all_goals
        clear z1 z2 h0 h1 f0 f1
        go_wp2_with fail
        go_roundw
        case rel =>
          have lb1 := unhide lb
          refine ⟨k + 1, p', cp', by omega, by go_num, ?_, ?_, ?_, ?_, ?_, ?_, ?_, ?_⟩
          · exact setc_other (by omega) (((unhide D6).block _ (by omega)).trans (unhide R0))
          · exact setc_other (by omega) (((unhide D6).block _ (by omega)).trans (unhide R1))
          · exact setc_other (by omega) (((unhide D6).block _ (by omega)).trans (unhide R2))
          · exact set2_1 (unhide R6)
          · exact own_setc_ne (own_part (unhide O1) (unhide D6) (fun k hk => Nat.lt_succ_of_lt (unhide lv k hk))) (fun k hk => by have := unhide lv k hk; omega)
          · have := own_setc_ne (g := ob) (j := 1) (u := .slice p' (k + 1) cp') (unhide O6) (fun k hk => by have := (unhide O6).lt k hk; rw [unhide B4] at this; omega)
            rw [unhide ez, ptsV_app]
            exact this
          · exact ((unhide HB).trans ((unhide D6).mono (by omega))).setCell (p := ⟨ob, 1, none⟩) (by dsimp only; omega) _
          · rw [setc_size]; exact Nat.le_trans (unhide hsz) (unhide D6).size
        case measure => simp [intOf]; omega
    · have hke : k = m := by omega
      subst hke
      obtain ⟨t0, t1⟩ := row2 R1
      obtain ⟨u0, u1⟩ := row2 R3
      obtain ⟨e0, e1⟩ := row2 R2
      obtain ⟨f0, f1⟩ := free2 R2
      replace R1 := hide R1
      replace R2 := hide R2
      replace R3 := hide R3
      replace R0 := hide R0
      replace O1 := hide O1
      replace O2 := hide O2
      replace hb := hide hb
      go_wp2_with fail
      refine bodyPost_ret (v := .agg #[.slice av n cv, .slice p k cp]) (by simp [results, Tryz.results20, go_sem, e0, e1]) rfl ?_
      have lb1 := unhide lb
      refine ⟨_, _, _, _, rfl, ⟨own_low (own_setc_ne (own_setc_ne (unhide O1) ?_) ?_) lb1, own_low (own_setc_ne (own_setc_ne (unhide O2) ?_) ?_) (by rw [unhide B4]; omega), ?_⟩, ix_listN vf n, px_listN _ _, below_put2 (unhide hb) (by omega) _ _⟩
      · intro q hq e; have := ((unhide O1).lt q hq).1; have := unhide lz; omega
      · intro q hq e; have := ((unhide O1).lt q hq).1; have := unhide lz; omega
      · intro q hq e; have := ((unhide O2).lt q hq).1; rw [unhide B4] at this; omega
      · intro q hq e; have := ((unhide O2).lt q hq).1; rw [unhide B4] at this; omega
      · cases hq : (Value.slice av n cv).ownBlock with
        | none => exact .inl rfl
        | some q => exact .inr fun e => by have h1 := unhide lv q hq; have h2 := ((unhide O2).lt q e.symm).1; rw [unhide B4] at h2; omega
end Go.Proofs.YtdbphpekhmlmdabGreat

/-
  MovePath where the verbs may be nil: the specification's. (By moveu.py.)
-/
namespace Go.Proofs.YtdbphpekhmlmdabGreat
open Go.RowKit

/-- A list of numbers, nil or not, onto an own list without anything. -/
theorem wpList_append_vs {ops : Array Oper} {rest : List Oper} {o : Oper} {b : Act} {Q : Exit → Act → World → Prop} (w : World) (hgd : o.guard = none) (s x : Operand) (ho : o.op = .call { callee := .builtin .append, args := #[s, x], argTypes := #[47, 47] })
    (base : Nat) (i : TypeInfo) (hi : Tryz.prog.info? 3 = some i) (hz : i.zero = some (.int .i64 0)) (hsize : i.size = 1) (hby : i.bytes = 8) (v : Value) (hs : b.eval s = v) (hown : w.ownsRow base 3 1 v 0 [])
    (vf : Nat → Int) (a : Option Addr) (n c : Nat) (ha : a = none → n = 0 ∧ c = 0) (hn : n ≤ 1048576) (hx : b.eval x = .slice a n c) (V : ∀ i, i < n → IntAt w a i (vf i)) (hbase : base ≤ w.heap.size)
    (h : ∀ v' w', w'.ownsRow base 3 1 v' n ((listN vf n).map Iv) → w.grownBy w' v.ownBlock → wpList Tryz.prog ops Q rest (b.put o.dst v') w') : wpList Tryz.prog ops Q (o :: rest) b w := by
  cases a with
  | none =>
    obtain ⟨rfl, rfl⟩ := ha rfl
    exact wpList_append_own_none hgd s x 47 ho base 3 i 1 Tryz.underlying47 hi v 0 [] hs hown hx (h v w hown (World.grownBy.refl _ _))
  | some ad =>
    refine wpList_append_own w hgd s x 47 ho base 3 i (.int .i64 0) 1 8 Tryz.underlying47 hi hz hsize hby rfl (by decide) v 0 [] hs hown ad n c ((listN vf n).map Iv) hx (by simp [listN]) ?_ (Iv_one _) (by unfold maxLen; omega) (by omega) hbase (fun v' w' h1 h2 _ => ?_)
    · intro j u hj
      have hlt : j < n := by have := (List.getElem?_eq_some_iff.1 hj).1; simpa [listN] using this
      obtain ⟨s', o', e, hc⟩ := V j hlt
      cases e
      exact int_cells V j u hj
    · rw [Nat.zero_add, List.nil_append] at h1
      exact h v' w' h1 h2

set_option maxHeartbeats 8000000 in
set_option maxRecDepth 100000 in
theorem specMovePath_gen (A B C D E F : Int) (vf : Nat → Int) (pf : Nat → Int × Int) (a b : Option Addr) (n c m d : Nat) (ha : a = none → n = 0 ∧ c = 0) (hn : n ≤ 1048576) (hm : m ≤ 1048576) (w : World)
    (x : Bool) (hx : x = true ↔ Right vf n pf m) (V : ∀ i, i < n → IntAt w a i (vf i)) (P : ∀ i, i < m → PtArg w b i (pf i)) :
    Calls Tryz.prog 20 #[.agg #[.int .i64 A, .int .i64 B, .int .i64 C, .int .i64 D, .int .i64 E, .int .i64 F], .agg #[.slice a n c, .slice b m d]] w fun r w' =>
      PathRes w r w' (okN (x && matOkB A B C D E F) n) (okN (x && matOkB A B C D E F) m) vf (fun i => mvP A B C D E F (pf i)) := by
  obtain ⟨i1, hi1, hz1, hs1, hb1⟩ := info_parts Tryz.info3
  obtain ⟨i2, hi2, hz2, hs2, hb2⟩ := info_parts infoPoint
  have EO := hide (fun u V P => specPathOk_any vf pf a b n c m d hn hm u x hx V P)
  have EM := hide (specMatOk_any A B C D E F)
  have EA := hide (fun x y => specApply_any A B C D E F x y)
  generalize matOkB A B C D E F = y at EM ⊢
  replace V := hide V
  replace P := hide P
  replace hx := hide hx
  go_enter Tryz.func20, Tryz.ntmps20
  go_wp2_with fail
  obtain ⟨W, hW⟩ : ∃ W, W = ((w.alloc (.cells #[.int .i64 A, .int .i64 B, .int .i64 C, .int .i64 D, .int .i64 E, .int .i64 F] 43)).alloc (.cells #[.slice a n c, .slice b m d] 50)).alloc (.cells #[.slice none 0 0, .slice none 0 0] 50) := ⟨_, rfl⟩
  have HB := hide (show Below w.heap.size w W by rw [hW]; exact al3_below _ _ _ _)
  have R0 := hide (show W.heap[w.heap.size]? = some (.cells #[.int .i64 A, .int .i64 B, .int .i64 C, .int .i64 D, .int .i64 E, .int .i64 F] 43 (0, 0)) by rw [hW]; exact al3_0 _ _ _ _)
  have R1 := hide (show W.heap[w.heap.size + 1]? = some (.cells #[.slice a n c, .slice b m d] 50 (0, 0)) by rw [hW]; exact al3_1 _ _ _ _)
  have R2 := hide (show W.heap[w.heap.size + 1 + 1]? = some (.cells #[.slice none 0 0, .slice none 0 0] 50 (0, 0)) by rw [hW]; exact al3_2 _ _ _ _)
  rw [← hW]
  clear hW
  go_fit (unhide EO _ (fun i hi => (unhide V i hi).next (unhide HB)) (fun i hi => (unhide P i hi).next (unhide HB)))
  rintro r w1 ⟨rfl, hb⟩
  replace HB := hide (below_two (unhide HB) hb)
  replace R0 := hide (row_next hb (unhide R0))
  replace R1 := hide (row_next hb (unhide R1))
  replace R2 := hide (row_next hb (unhide R2))
  clear hb EO
  cases x with
  | false =>
    obtain ⟨f0, f1⟩ := free2 (unhide R2)
    obtain ⟨c0, c1⟩ := row2 (unhide R2)
    go_wp2_with fail
    refine bodyPost_ret (v := .agg #[.slice none 0 0, .slice none 0 0]) (by simp [results, Tryz.results20, go_sem, c0, c1]) rfl ?_
    exact res_none (below_put2 (unhide HB) (by omega) _ _)
  | true =>
  obtain ⟨q0, q1, q2, q3, q4, q5⟩ := row6 (unhide R0)
  go_wp2_with fail
  go_fit (unhide EM _)
  rintro r w2 ⟨rfl, hb⟩
  replace HB := hide (below_two (unhide HB) hb)
  replace R0 := hide (row_next hb (unhide R0))
  replace R1 := hide (row_next hb (unhide R1))
  replace R2 := hide (row_next hb (unhide R2))
  clear hb EM q0 q1 q2 q3 q4 q5
  cases y with
  | false =>
    obtain ⟨f0, f1⟩ := free2 (unhide R2)
    obtain ⟨c0, c1⟩ := row2 (unhide R2)
    go_wp2_with fail
    refine bodyPost_ret (v := .agg #[.slice none 0 0, .slice none 0 0]) (by simp [results, Tryz.results20, go_sem, c0, c1]) rfl ?_
    exact res_none (below_put2 (unhide HB) (by omega) _ _)
  | true =>
  obtain ⟨c0, c1⟩ := row2 (old_row (.cells #[] 3) (unhide R1))
  have oE := hide (show (w2.alloc (.cells #[] 3)).ownsRow w2.heap.size 3 1 (.slice (some ⟨w2.heap.size, 0, none⟩) 0 0) 0 [] from World.ownsRow_lit w2 #[] 0 (Nat.le_refl _) (by decide) rfl)
  have VE := hide (fun i hi => ((unhide V i hi).next (unhide HB)).next (al1_below w2 (.cells #[] 3)))
  go_wp2_with (at_builtin; go_must (refine wpList_append_vs (w2.alloc (.cells #[] 3)) rfl _ _ rfl w2.heap.size i1 hi1 hz1 hs1 hb1 _ (by rfl) (unhide oE) vf a n c ha hn (by rfl) (unhide VE) (by simp) ?_); intro v1 w3 ho hg; obtain ⟨av, cv, rfl⟩ := own_form ho; have O1 := hide ho; have G3 := hide hg; have O3 := hide hg; have lv3 := hide (fun k hk => (ho.lt k hk).2); clear ho hg)
  replace G3 := hide (below_of_grown (B := w2.heap.size) (unhide G3) (by simp) (fun k hk => by simp [Value.ownBlock] at hk; omega))
  replace G3 := hide ((al1_below w2 (.cells #[] 3)).trans (unhide G3))
  clear VE oE c0 c1
  obtain ⟨W4, hW⟩ : ∃ W, W = w3.alloc (.cells #[.slice av n cv, .slice none 0 0] 50) := ⟨_, rfl⟩
  have hn4 := hide (show Below w2.heap.size w2 W4 by rw [hW]; exact below_new _ (unhide G3) (Nat.le_refl _))
  have R3 := hide (show W4.heap[w3.heap.size]? = some (.cells #[.slice av n cv, .slice none 0 0] 50 (0, 0)) by rw [hW]; exact new_row _ _)
  replace O1 := hide (show W4.ownsRow w2.heap.size 3 1 (.slice av n cv) n ((listN vf n).map Iv) by rw [hW]; exact (unhide O1).alloc _)
  have sz4 := hide (show W4.heap.size = w3.heap.size + 1 by rw [hW]; simp)
  rw [← hW]
  clear hW G3
  have lb := hide (unhide HB).size
  have lo := hide (show w2.heap.size ≤ w3.heap.size by have := (unhide O3).size; simp at this; omega)
  replace HB := hide (below_two (unhide HB) (unhide hn4))
  have l0 := heap_lt (unhide R0)
  have l1 := heap_lt (unhide R1)
  have l2 := heap_lt (unhide R2)
  have lw2 := (unhide HB).size
  have l3 : w3.heap.size < W4.heap.size := heap_lt (unhide R3)
  have l4 := (unhide hn4).size
  replace R0 := hide (row_next (unhide hn4) (unhide R0))
  replace R1 := hide (row_next (unhide hn4) (unhide R1))
  replace R2 := hide (row_next (unhide hn4) (unhide R2))
  replace l3 := hide l3
  replace lw2 := hide lw2
  have lv := hide (show ∀ k, (Value.slice av n cv).ownBlock = some k → k < w3.heap.size from fun k hk => (unhide lv3 k hk))
  clear hn4 l4 lv3 O3
  have B4 : Hid (W4.heap.size = w3.heap.size + 1) := unhide sz4
  clear sz4
  have l0' : w.heap.size < w3.heap.size := Nat.lt_of_lt_of_le l0 (unhide lo)
  have l1' : w.heap.size + 1 < w3.heap.size := Nat.lt_of_lt_of_le l1 (unhide lo)
  have l2' : w.heap.size + 1 + 1 < w3.heap.size := Nat.lt_of_lt_of_le l2 (unhide lo)
  generalize w3.heap.size = ob at l0' l1' l2' R3 l3 lv lo B4 ⊢
  have lz := hide l2
  clear l0 l1 l2
  go_loopw [6] (fun i u => ∃ (k : Nat) (p : Option Addr) (cp : Nat), k ≤ m ∧ i = .int .i64 k ∧ u.heap[w.heap.size]? = some (.cells #[.int .i64 A, .int .i64 B, .int .i64 C, .int .i64 D, .int .i64 E, .int .i64 F] 43 (0, 0)) ∧ u.heap[w.heap.size + 1]? = some (.cells #[.slice a n c, .slice b m d] 50 (0, 0)) ∧ u.heap[w.heap.size + 1 + 1]? = some (.cells #[.slice none 0 0, .slice none 0 0] 50 (0, 0)) ∧ u.heap[ob]? = some (.cells #[.slice av n cv, .slice p k cp] 50 (0, 0)) ∧ u.ownsRow w2.heap.size 3 1 (.slice av n cv) n ((listN vf n).map Iv) ∧ u.ownsRow W4.heap.size 55 2 (.slice p k cp) k (ptsV (listN (fun i => mvP A B C D E F (pf i)) k)) ∧ Below w.heap.size w u ∧ ob + 1 ≤ u.heap.size) (fun i _ => m - (intOf i).toNat)
  case atStart => exact ⟨0, none, 0, Nat.zero_le _, rfl, unhide R0, unhide R1, unhide R2, unhide R3, unhide O1, World.ownsRow_nil _ _ _ _, unhide HB, by rw [unhide B4]; exact Nat.le_refl _⟩
  case round =>
    clear R0 R1 R2 R3 O1 HB
    obtain ⟨k, p, cp, hk, rfl, R0, R1, R2, R3, O1, O2, hb, hsz⟩ := hrel
    by_cases hlt : k < m
    · have HZ := (unhide P k hlt).next hb
      have ez : Hid (listN (fun i => mvP A B C D E F (pf i)) (k + 1) = listN (fun i => mvP A B C D E F (pf i)) k ++ [mvP A B C D E F (pf k)]) := listN_more _ _
      generalize hl : listN (fun i => mvP A B C D E F (pf i)) k = l at O2 ez
      have hll : l.length = k := by rw [← hl]; exact listN_len _ _
      replace hl := hide hl
      generalize pf k = z at HZ ez
      obtain ⟨x0, y0⟩ := z
      obtain ⟨s, o, rfl, g0, g1⟩ := HZ
      dsimp only at g0 g1
      have EA' := hide (unhide EA x0 y0)
      change Hid (listN (fun i => mvP A B C D E F (pf i)) (k + 1) = l ++ [(applyX A B C D E F x0 y0, applyY A B C D E F x0 y0)]) at ez
      generalize applyX A B C D E F x0 y0 = X at EA' ez
      generalize applyY A B C D E F x0 y0 = Y at EA' ez
      obtain ⟨q0, q1, q2, q3, q4, q5⟩ := row6 R0
      obtain ⟨t0, t1⟩ := row2 R1
      obtain ⟨u0, u1⟩ := row2 R3
      replace R0 := hide R0
      replace R1 := hide R1
      replace R2 := hide R2
      replace R3 := hide R3
      replace O1 := hide O1
      replace O2 := hide O2
      have HB := hide hb
      clear hb
      replace hsz := hide hsz
      go_wp2_with fail
      go_region_law (first | (refine step_call rfl 50 _ (by go_simp) (unhide EA' _) ?_; rintro r w5 ⟨rfl, hb5⟩; refine ⟨_, rfl, ?_⟩; have z1 := kc hb5 u1; have z2 := kn (.cells #[.int .i64 X, .int .i64 Y] 55) z1; have D5 := hide (show Below wr.heap.size wr w5 from below_undrew hb5)) | (refine step_append_any rfl _ _ 48 55 rfl W4.heap.size i2 (.agg #[.int .i64 0, .int .i64 0]) 2 16 Tryz.underlying48 hi2 hz2 hs2 hb2 rfl (by decide) (.slice p k cp) k (ptsV l) (by rfl) ((own_below (unhide O2) (unhide D5)).alloc _) ⟨w5.heap.size, 0, none⟩ 1 1 (ptV (X, Y)) (by rfl) (by rfl) (pt_cells w5 X Y _) (pt_one X Y) (by unfold maxLen; omega) (by omega) wr (ob + 1) (by rw [unhide B4]; exact Nat.le_refl _) (by rw [unhide B4]; have h1 := (unhide D5).size; have h2 := unhide hsz; simp; omega) (below_new _ ((unhide D5).mono (unhide hsz)) (unhide hsz)) ?_; intro v' w6 O6 D6; obtain ⟨p', cp', rfl⟩ := own_form O6; have R6 := hide ((D6.block ob (Nat.lt_succ_self _)).trans (unhide R3)); obtain ⟨h0, h1⟩ := row2 (unhide R6); obtain ⟨f0, f1⟩ := free2 (unhide R6); replace O6 := hide O6; replace D6 := hide D6))
      all_goals
        clear z1 z2 h0 h1 f0 f1
        go_wp2_with fail
        go_roundw
        case rel =>
          have lb1 := unhide lb
          refine ⟨k + 1, p', cp', by omega, by go_num, ?_, ?_, ?_, ?_, ?_, ?_, ?_, ?_⟩
          · exact setc_other (by omega) (((unhide D6).block _ (by omega)).trans (unhide R0))
          · exact setc_other (by omega) (((unhide D6).block _ (by omega)).trans (unhide R1))
          · exact setc_other (by omega) (((unhide D6).block _ (by omega)).trans (unhide R2))
          · exact set2_1 (unhide R6)
          · exact own_setc_ne (own_part (unhide O1) (unhide D6) (fun k hk => Nat.lt_succ_of_lt (unhide lv k hk))) (fun k hk => by have := unhide lv k hk; omega)
          · have := own_setc_ne (g := ob) (j := 1) (u := .slice p' (k + 1) cp') (unhide O6) (fun k hk => by have := (unhide O6).lt k hk; rw [unhide B4] at this; omega)
            rw [unhide ez, ptsV_app]
            exact this
          · exact ((unhide HB).trans ((unhide D6).mono (by omega))).setCell (p := ⟨ob, 1, none⟩) (by dsimp only; omega) _
          · rw [setc_size]; exact Nat.le_trans (unhide hsz) (unhide D6).size
        case measure => simp [intOf]; omega
    · have hke : k = m := by omega
      subst hke
      obtain ⟨t0, t1⟩ := row2 R1
      obtain ⟨u0, u1⟩ := row2 R3
      obtain ⟨e0, e1⟩ := row2 R2
      obtain ⟨f0, f1⟩ := free2 R2
      replace R1 := hide R1
      replace R2 := hide R2
      replace R3 := hide R3
      replace R0 := hide R0
      replace O1 := hide O1
      replace O2 := hide O2
      replace hb := hide hb
      go_wp2_with fail
      refine bodyPost_ret (v := .agg #[.slice av n cv, .slice p k cp]) (by simp [results, Tryz.results20, go_sem, e0, e1]) rfl ?_
      have lb1 := unhide lb
      refine ⟨_, _, _, _, rfl, ⟨own_low (own_setc_ne (own_setc_ne (unhide O1) ?_) ?_) lb1, own_low (own_setc_ne (own_setc_ne (unhide O2) ?_) ?_) (by rw [unhide B4]; omega), ?_⟩, ix_listN vf n, px_listN _ _, below_put2 (unhide hb) (by omega) _ _⟩
      · intro q hq e; have := ((unhide O1).lt q hq).1; have := unhide lz; omega
      · intro q hq e; have := ((unhide O1).lt q hq).1; have := unhide lz; omega
      · intro q hq e; have := ((unhide O2).lt q hq).1; rw [unhide B4] at this; omega
      · intro q hq e; have := ((unhide O2).lt q hq).1; rw [unhide B4] at this; omega
      · cases hq : (Value.slice av n cv).ownBlock with
        | none => exact .inl rfl
        | some q => exact .inr fun e => by have h1 := unhide lv q hq; have h2 := ((unhide O2).lt q e.symm).1; rw [unhide B4] at h2; omega
end Go.Proofs.YtdbphpekhmlmdabGreat

/-
  The program's allRight: every point of a list is right.
-/
namespace Go.Proofs.YtdbphpekhmlmdabGreat
open Go.RowKit

set_option maxHeartbeats 4000000 in
set_option maxRecDepth 100000 in
theorem implAllRight_any (pf : Nat → Int × Int) (b : Option Addr) (m d : Nat) (hm : m ≤ 1048576) (w : World)
    (x : Bool) (hx : x = true ↔ ∀ i, i < m → pointOkB (pf i).1 (pf i).2 = true) (P : ∀ i, i < m → PtArg w b i (pf i)) :
    Calls Tryz.prog 130 #[.slice b m d] w fun r w' => r = .returned (.bool x) ∧ Below w.heap.size w w' := by
  replace hx := hide hx
  replace P := hide P
  go_enter Tryz.func130, Tryz.ntmps130
  go_wp2_with fail
  go_loopw [7] (fun i u => ∃ q : Nat, q ≤ m ∧ i = .int .i64 q ∧ Hid (∀ j, j < q → pointOkB (pf j).1 (pf j).2 = true) ∧ Below w.heap.size w u) (fun i _ => m - (intOf i).toNat)
  case atStart => exact ⟨0, Nat.zero_le _, rfl, fun j hj => absurd hj (by omega), Below.refl _ _⟩
  case round =>
    obtain ⟨q, hq, rfl, HP, hb⟩ := hrel
    by_cases hlt : q < m
    · have HZ := (unhide P q hlt).next hb
      generalize hz : pf q = z at HZ
      obtain ⟨x0, y0⟩ := z
      obtain ⟨s, o, rfl, g0, g1⟩ := HZ
      dsimp only at g0 g1
      have E := hide (implPointOk_any x0 y0)
      replace hb := hide hb
      replace hz := hide hz
      go_wp2_with fail
      obtain ⟨W, hW⟩ : ∃ W, W = wr.alloc (.cells #[.int .i64 x0, .int .i64 y0] 55) := ⟨_, rfl⟩
      replace hb := hide (show Below w.heap.size w W by rw [hW]; exact below_new _ (unhide hb) (Nat.le_refl _))
      rw [← hW]
      clear hW g0 g1
      go_fit (unhide E _)
      rintro r w1 ⟨rfl, hb1⟩
      replace hb := hide (below_two (unhide hb) hb1)
      clear hb1
      cases hok : pointOkB x0 y0 with
      | true =>
        go_wp2_with fail
        go_roundw
        case rel => exact ⟨q + 1, by omega, by go_num, pok_more (unhide HP) (by rw [unhide hz]; exact hok), unhide hb⟩
        case measure => simp [intOf]; omega
      | false =>
        go_wp2_with fail
        go_ret
        exact ⟨bool_no (unhide hx) (fun h => by have := h q hlt; rw [unhide hz] at this; dsimp only at this; rw [hok] at this; cases this), unhide hb⟩
    · have hqe : q = m := by omega
      subst hqe
      replace hb := hide hb
      go_wp2_with fail
      go_ret
      exact ⟨bool_yes (unhide hx) (unhide HP), unhide hb⟩
end Go.Proofs.YtdbphpekhmlmdabGreat

/-
  The program's NeedOf, verbsFit and PathOk.
-/
namespace Go.Proofs.YtdbphpekhmlmdabGreat
open Go.RowKit

set_option maxHeartbeats 1000000 in
theorem implNeedOf_any (v : Int) (w : World) :
    Calls Tryz.prog 97 #[.int .i64 v] w fun r w' => r = .returned (.int .i64 (needI v)) ∧ Below w.heap.size w w' := by
  by_cases hv : isVerb v
  · have hk : needI v = needK v := needI_of hv
    rcases verb_cases hv with rfl | rfl | rfl | rfl | rfl
    all_goals
      clear hv
      rw [hk]
      clear hk
      go_enter Tryz.func97, Tryz.ntmps97
      go_wp2_with fail
      go_ret
      exact ⟨rfl, Below.refl _ _⟩
  · rw [show needI v = -1 from if_neg hv]
    have h1 : (v == 1) = false := by simp; intro e; exact hv (by rw [e]; decide)
    have h2 : (v == 2) = false := by simp; intro e; exact hv (by rw [e]; decide)
    have h3 : (v == 3) = false := by simp; intro e; exact hv (by rw [e]; decide)
    have h4 : (v == 4) = false := by simp; intro e; exact hv (by rw [e]; decide)
    have h5 : (v == 5) = false := by simp; intro e; exact hv (by rw [e]; decide)
    clear hv
    go_enter Tryz.func97, Tryz.ntmps97
    go_wp2_with fail
    go_ret
    exact ⟨rfl, Below.refl _ _⟩

def begunB (vf : Nat → Int) : Nat → Bool
  | 0 => false
  | k + 1 => vf k != 5
theorem begun_no {vf : Nat → Int} {k : Nat} : begunB vf k = false ↔ (k = 0 ∨ vf (k - 1) = 5) := by
  cases k with
  | zero => simp [begunB]
  | succ k => simp [begunB]
theorem begun_more {vf : Nat → Int} {k : Nat} {z : Int} (h : vf k = z) : begunB vf (k + 1) = (z != 5) := by rw [← h]; rfl

set_option maxHeartbeats 4000000 in
set_option maxRecDepth 100000 in
theorem implVerbsFit_any (vf : Nat → Int) (a : Option Addr) (n c p : Nat) (hn : n ≤ 24) (hp : p ≤ 24) (w : World)
    (x : Bool) (hx : x = true ↔ ((∀ j, j < n → VOk vf j) ∧ needN vf n = p)) (V : ∀ i, i < n → IntAt w a i (vf i)) :
    Calls Tryz.prog 131 #[.slice a n c, .int .i64 p] w fun r w' => r = .returned (.bool x) ∧ Below w.heap.size w w' := by
  replace hx := hide hx
  replace V := hide V
  go_enter Tryz.func131, Tryz.ntmps131
  go_wp2_with fail
  go_loopw [1, 5, 11] (fun s g i u => ∃ k : Nat, k ≤ n ∧ i = .int .i64 k ∧ s = .int .i64 ((p : Int) - (needN vf k : Nat)) ∧ g = .bool (begunB vf k) ∧ Hid (∀ j, j < k → VOk vf j) ∧ Below w.heap.size w u) (fun _ _ i _ => n - (intOf i).toNat)
  case atStart => exact ⟨0, Nat.zero_le _, rfl, by simp [needN], rfl, fun j hj => absurd hj (by omega), Below.refl _ _⟩
  case round =>
    obtain ⟨k, hk, rfl, rfl, rfl, HV, hb⟩ := hrel
    have hN := needN_le vf k
    by_cases hlt : k < n
    · have HZ := (unhide V k hlt).next hb
      have eg : Hid (begunB vf k = false ↔ (k = 0 ∨ vf (k - 1) = 5)) := begun_no
      generalize begunB vf k = g at eg ⊢
      generalize hz : vf k = z at HZ
      obtain ⟨s, o, rfl, g0⟩ := HZ
      have E := hide (implNeedOf_any z)
      replace hb := hide hb
      by_cases hv : isVerb z
      · rw [needI_of hv] at E
        have hkk := needK_le z
        have hneg : ¬ ((needK z : Int) < 0) := by omega
        have hw : IntKind.i64.wrap (((p : Int) - (needN vf k : Nat)) - (needK z : Int)) = (p : Int) - (needN vf k : Nat) - (needK z : Int) := IntWalk.i64_in _ (by omega)
        replace hz := hide hz
        go_wp2_with fail
        go_fit (unhide E _)
        rintro r w1 ⟨rfl, hb1⟩
        replace hb := hide (below_two (unhide hb) hb1)
        clear hb1 E
        cases g with
        | false =>
          by_cases hz1 : z = 1
          · have hzb : (z != 1) = false := by simp [hz1]
            replace hz1 := hide hz1
            go_wp2_with fail
            go_roundw
            case rel => exact ⟨k + 1, by omega, by go_num, by simp only [needN]; rw [unhide hz]; go_num, by rw [begun_more (unhide hz)], vok_more (unhide HV) ⟨by rw [unhide hz]; exact hv, fun _ => by rw [unhide hz]; exact unhide hz1⟩, unhide hb⟩
            case measure => simp [intOf]; omega
          · have hzb : (z != 1) = true := by simp [hz1]
            go_wp2_with fail
            go_ret
            exact ⟨bool_no (unhide hx) (fun h => absurd ((h.1 k hlt).2 ((unhide eg).1 (by first | rfl | trivial))) (by rw [unhide hz]; exact hz1)), unhide hb⟩
        | true =>
          go_wp2_with fail
          go_roundw
          case rel => exact ⟨k + 1, by omega, by go_num, by simp only [needN]; rw [unhide hz]; go_num, by rw [begun_more (unhide hz)], vok_more (unhide HV) ⟨by rw [unhide hz]; exact hv, fun h => absurd ((unhide eg).2 h) (by simp)⟩, unhide hb⟩
          case measure => simp [intOf]; omega
      · rw [show needI z = -1 from if_neg hv] at E
        go_wp2_with fail
        go_fit (unhide E _)
        rintro r w1 ⟨rfl, hb1⟩
        go_wp2_with fail
        go_ret
        exact ⟨bool_no (unhide hx) (fun h => absurd (h.1 k hlt).1 (by rw [hz]; exact hv)), below_two (unhide hb) hb1⟩
    · have hke : k = n := by omega
      subst hke
      by_cases hs : needN vf k = p
      · have hs' : (((p : Int) - (needN vf k : Nat)) == 0) = true := by simp; omega
        replace hs := hide hs
        replace hb := hide hb
        clear hN
        go_wp2_with fail
        go_ret
        exact ⟨bool_yes (unhide hx) ⟨unhide HV, unhide hs⟩, unhide hb⟩
      · have hs' : (((p : Int) - (needN vf k : Nat)) == 0) = false := by simp; omega
        replace hs := hide hs
        replace hb := hide hb
        clear hN
        go_wp2_with fail
        go_ret
        exact ⟨bool_no (unhide hx) (fun h => unhide hs h.2), unhide hb⟩

set_option maxHeartbeats 4000000 in
set_option maxRecDepth 100000 in
theorem implPathOk_any (vf : Nat → Int) (pf : Nat → Int × Int) (a b : Option Addr) (n c m d : Nat) (hn : n ≤ 1048576) (hm : m ≤ 1048576) (w : World)
    (x : Bool) (hx : x = true ↔ Right vf n pf m) (V : ∀ i, i < n → IntAt w a i (vf i)) (P : ∀ i, i < m → PtArg w b i (pf i)) :
    Calls Tryz.prog 96 #[.agg #[.slice a n c, .slice b m d]] w fun r w' => r = .returned (.bool x) ∧ Below w.heap.size w w' := by
  replace hx := hide hx
  replace V := hide V
  replace P := hide P
  by_cases h1 : 24 < n
  · have h1' : (24 : Int) < n := by omega
    go_enter Tryz.func96, Tryz.ntmps96
    go_wp2_with fail
    go_ret
    exact ⟨bool_no (unhide hx) (fun h => by have := h.nv24; omega), al1_below _ _⟩
  have h1' : ¬ (24 : Int) < n := by omega
  by_cases h2 : 24 < m
  · have h2' : (24 : Int) < m := by omega
    go_enter Tryz.func96, Tryz.ntmps96
    go_wp2_with fail
    go_ret
    exact ⟨bool_no (unhide hx) (fun h => by have := h.np24; omega), al1_below _ _⟩
  have h2' : ¬ (24 : Int) < m := by omega
  obtain ⟨y, hy⟩ : ∃ y : Bool, y = true ↔ ∀ i, i < m → pointOkB (pf i).1 (pf i).2 = true := by
    by_cases h : ∀ i, i < m → pointOkB (pf i).1 (pf i).2 = true
    · exact ⟨true, fun _ => h, fun _ => rfl⟩
    · exact ⟨false, fun e => (by cases e), fun e => absurd e h⟩
  have EA := hide (fun u P => implAllRight_any pf b m d hm u y hy P)
  replace hy := hide hy
  go_enter Tryz.func96, Tryz.ntmps96
  go_wp2_with fail
  obtain ⟨W, hW⟩ : ∃ W, W = w.alloc (.cells #[.slice a n c, .slice b m d] 50) := ⟨_, rfl⟩
  have R := hide (show W.heap[w.heap.size]? = some (.cells #[.slice a n c, .slice b m d] 50 (0, 0)) by rw [hW]; exact new_row _ _)
  have HB := hide (show Below w.heap.size w W by rw [hW]; exact al1_below _ _)
  rw [← hW]
  clear hW
  go_fit (unhide EA _ (fun i hi => (unhide P i hi).next (unhide HB)))
  rintro r w1 ⟨rfl, hb1⟩
  replace R := hide (row_next hb1 (unhide R))
  replace HB := hide (below_two (unhide HB) hb1)
  clear hb1 EA
  cases y with
  | false =>
    go_wp2_with fail
    go_ret
    exact ⟨bool_no (unhide hx) (fun h => by have := (unhide hy).2 h.points; cases this), unhide HB⟩
  | true =>
    obtain ⟨r0, r1⟩ := row2 (unhide R)
    have E := hide (fun u V => implVerbsFit_any vf a n c m (by omega) (by omega) u x ⟨fun h => ⟨((unhide hx).1 h).verbs, ((unhide hx).1 h).sum⟩, fun h => (unhide hx).2 ⟨by omega, by omega, h.1, (unhide hy).1 rfl, h.2⟩⟩ V)
    replace V := hide (fun i hi => (unhide V i hi).next (unhide HB))
    go_wp2_with fail
    go_fit (unhide E _ (unhide V))
    rintro r w2 ⟨rfl, hb2⟩
    go_wp2_with fail
    go_ret
    exact ⟨rfl, below_two (unhide HB) hb2⟩
end Go.Proofs.YtdbphpekhmlmdabGreat

/-
  The program's MovePath.
-/
namespace Go.Proofs.YtdbphpekhmlmdabGreat
open Go.RowKit

theorem notNilInts (w : World) (a : Addr) (n c : Nat) : (binOp .eql 47 (.slice (some a) n c) (.slice none 0 0)).run Tryz.prog w = .ok (.bool false) w := by kernel_rfl

attribute [local go_sem ↓] notNilInts in
set_option maxHeartbeats 4000000 in
theorem slicesClone_any (vf : Nat → Int) (s0 o0 n c : Nat) (hn : n ≤ 1048576) (w : World) (V : ∀ i, i < n → IntAt w (some ⟨s0, o0, none⟩) i (vf i)) :
    Calls Tryz.prog 101 #[.slice (some ⟨s0, o0, none⟩) n c] w fun r w' => ∃ av cv, r = .returned (.slice av n cv) ∧ w'.ownsRow w.heap.size 3 1 (.slice av n cv) n ((listN vf n).map Iv) ∧ Below w.heap.size w w' := by
  obtain ⟨i1, hi1, hz1, hs1, hb1⟩ := info_parts Tryz.info3
  have oE := hide (show (w.alloc (.cells #[] 3)).ownsRow w.heap.size 3 1 (.slice (some ⟨w.heap.size, 0, none⟩) 0 0) 0 [] from World.ownsRow_lit w #[] 0 (Nat.le_refl _) (by decide) rfl)
  have VE := hide (int_cells (fun i hi => (V i hi).next (al1_below w (.cells #[] 3))))
  clear V
  go_enter Tryz.func101, Tryz.ntmps101
  go_wp2_with (at_builtin; go_must (refine wpList_append_own (w.alloc (.cells #[] 3)) rfl _ _ 47 rfl w.heap.size 3 i1 (.int .i64 0) 1 8 Tryz.underlying47 hi1 hz1 hs1 hb1 rfl (by decide) _ 0 [] (by rfl) (unhide oE) ⟨s0, o0, none⟩ n c ((listN vf n).map Iv) (by rfl) (by simp [listN]) (unhide VE) (Iv_one _) (by unfold maxLen; omega) (by omega) (by simp) ?_); intro v1 w3 ho hg _; rw [Nat.zero_add, List.nil_append] at ho; obtain ⟨av, cv, rfl⟩ := own_form ho; have O1 := hide ho; have G3 := hide hg; clear ho hg)
  replace G3 := hide (below_of_grown (B := w.heap.size) (unhide G3) (by simp) (fun k hk => by simp [Value.ownBlock] at hk; omega))
  replace G3 := hide ((al1_below w (.cells #[] 3)).trans (unhide G3))
  go_ret
  exact ⟨av, cv, rfl, unhide O1, unhide G3⟩

set_option maxHeartbeats 8000000 in
set_option maxRecDepth 100000 in
theorem implMovePath_any (A B C D E F : Int) (vf : Nat → Int) (pf : Nat → Int × Int) (s0 o0 : Nat) (b : Option Addr) (n c m d : Nat) (hn : n ≤ 1048576) (hm : m ≤ 1048576) (w : World)
    (x : Bool) (hx : x = true ↔ Right vf n pf m) (V : ∀ i, i < n → IntAt w (some ⟨s0, o0, none⟩) i (vf i)) (P : ∀ i, i < m → PtArg w b i (pf i)) :
    Calls Tryz.prog 58 #[.agg #[.int .i64 A, .int .i64 B, .int .i64 C, .int .i64 D, .int .i64 E, .int .i64 F], .agg #[.slice (some ⟨s0, o0, none⟩) n c, .slice b m d]] w fun r w' =>
      PathRes w r w' (okN (x && matOkB A B C D E F) n) (okN (x && matOkB A B C D E F) m) vf (fun i => mvP A B C D E F (pf i)) := by
  obtain ⟨i2, hi2, hz2, hs2, hb2⟩ := info_parts infoPoint
  have EO := hide (fun u V P => implPathOk_any vf pf (some ⟨s0, o0, none⟩) b n c m d hn hm u x hx V P)
  have EM := hide (implMatOk_any A B C D E F)
  have EA := hide (fun x y => implApply_any A B C D E F x y)
  have EC := hide (fun u V => slicesClone_any vf s0 o0 n c hn u V)
  generalize matOkB A B C D E F = y at EM ⊢
  replace V := hide V
  replace P := hide P
  replace hx := hide hx
  go_enter Tryz.func58, Tryz.ntmps58
  go_wp2_with fail
  obtain ⟨W, hW⟩ : ∃ W, W = ((w.alloc (.cells #[.int .i64 A, .int .i64 B, .int .i64 C, .int .i64 D, .int .i64 E, .int .i64 F] 43)).alloc (.cells #[.slice (some ⟨s0, o0, none⟩) n c, .slice b m d] 50)).alloc (.cells #[.slice none 0 0, .slice none 0 0] 50) := ⟨_, rfl⟩
  have HB := hide (show Below w.heap.size w W by rw [hW]; exact al3_below _ _ _ _)
  have R0 := hide (show W.heap[w.heap.size]? = some (.cells #[.int .i64 A, .int .i64 B, .int .i64 C, .int .i64 D, .int .i64 E, .int .i64 F] 43 (0, 0)) by rw [hW]; exact al3_0 _ _ _ _)
  have R1 := hide (show W.heap[w.heap.size + 1]? = some (.cells #[.slice (some ⟨s0, o0, none⟩) n c, .slice b m d] 50 (0, 0)) by rw [hW]; exact al3_1 _ _ _ _)
  have R2 := hide (show W.heap[w.heap.size + 1 + 1]? = some (.cells #[.slice none 0 0, .slice none 0 0] 50 (0, 0)) by rw [hW]; exact al3_2 _ _ _ _)
  rw [← hW]
  clear hW
  go_fit (unhide EM _)
  rintro r w1 ⟨rfl, hb⟩
  replace HB := hide (below_two (unhide HB) hb)
  replace R0 := hide (row_next hb (unhide R0))
  replace R1 := hide (row_next hb (unhide R1))
  replace R2 := hide (row_next hb (unhide R2))
  clear hb EM
  cases y with
  | false =>
    obtain ⟨f0, f1⟩ := free2 (unhide R2)
    obtain ⟨c0, c1⟩ := row2 (unhide R2)
    go_wp2_with fail
    refine bodyPost_ret (v := .agg #[.slice none 0 0, .slice none 0 0]) (by simp [results, Tryz.results58, go_sem, c0, c1]) rfl ?_
    rw [Bool.and_false]
    exact res_none (below_put2 (unhide HB) (by omega) _ _)
  | true =>
  obtain ⟨t0, t1⟩ := row2 (unhide R1)
  go_wp2_with fail
  go_fit (unhide EO _ (fun i hi => (unhide V i hi).next (unhide HB)) (fun i hi => (unhide P i hi).next (unhide HB)))
  rintro r w2 ⟨rfl, hb⟩
  replace HB := hide (below_two (unhide HB) hb)
  replace R0 := hide (row_next hb (unhide R0))
  replace R1 := hide (row_next hb (unhide R1))
  replace R2 := hide (row_next hb (unhide R2))
  clear hb EO t0 t1
  cases x with
  | false =>
    obtain ⟨f0, f1⟩ := free2 (unhide R2)
    obtain ⟨c0, c1⟩ := row2 (unhide R2)
    go_wp2_with fail
    refine bodyPost_ret (v := .agg #[.slice none 0 0, .slice none 0 0]) (by simp [results, Tryz.results58, go_sem, c0, c1]) rfl ?_
    exact res_none (below_put2 (unhide HB) (by omega) _ _)
  | true =>
  obtain ⟨c0, c1⟩ := row2 (unhide R1)
  go_wp2_with fail
  go_fit (unhide EC _ (fun i hi => (unhide V i hi).next (unhide HB)))
  rintro r w3 ⟨av, cv, rfl, O1, hb⟩
  have lv := hide (show ∀ k, (Value.slice av n cv).ownBlock = some k → k < w3.heap.size from fun k hk => (O1.lt k hk).2)
  have lb := hide (unhide HB).size
  have lo := hide hb.size
  have lz : Hid (w.heap.size + 1 + 1 < w2.heap.size) := heap_lt (unhide R2)
  replace R0 := hide (row_next hb (unhide R0))
  replace R1 := hide (row_next hb (unhide R1))
  replace R2 := hide (row_next hb (unhide R2))
  replace HB := hide (below_two (unhide HB) hb)
  replace O1 := hide O1
  clear hb c0 c1 EC
  obtain ⟨c0, c1⟩ := row2 (old_row (.cells #[.slice av n cv, .slice none 0 0] 50) (unhide R1))
  go_wp2_with fail
  clear c0 c1
  obtain ⟨W4, hW⟩ : ∃ W, W = w3.alloc (.cells #[.slice av n cv, .slice none 0 0] 50) := ⟨_, rfl⟩
  have R3 := hide (show W4.heap[w3.heap.size]? = some (.cells #[.slice av n cv, .slice none 0 0] 50 (0, 0)) by rw [hW]; exact new_row _ _)
  replace O1 := hide (show W4.ownsRow w2.heap.size 3 1 (.slice av n cv) n ((listN vf n).map Iv) by rw [hW]; exact (unhide O1).alloc _)
  replace R0 := hide (show W4.heap[w.heap.size]? = some (.cells #[.int .i64 A, .int .i64 B, .int .i64 C, .int .i64 D, .int .i64 E, .int .i64 F] 43 (0, 0)) by rw [hW]; exact old_row _ (unhide R0))
  replace R2 := hide (show W4.heap[w.heap.size + 1 + 1]? = some (.cells #[.slice none 0 0, .slice none 0 0] 50 (0, 0)) by rw [hW]; exact old_row _ (unhide R2))
  replace HB := hide (show Below w.heap.size w W4 by rw [hW]; exact below_new _ (unhide HB) (Nat.le_refl _))
  have B4 := hide (show W4.heap.size = w3.heap.size + 1 by rw [hW]; simp)
  rw [← hW]
  clear hW R1
  have l2' : w.heap.size + 1 + 1 < w3.heap.size := Nat.lt_of_lt_of_le (unhide lz) (unhide lo)
  have l0' : w.heap.size < w3.heap.size := by omega
  generalize w3.heap.size = ob at l0' l2' R3 lv lo B4 ⊢
  go_loopw [24] (fun i u => ∃ (k : Nat) (p : Option Addr) (cp : Nat), k ≤ m ∧ i = .int .i64 k ∧ u.heap[w.heap.size]? = some (.cells #[.int .i64 A, .int .i64 B, .int .i64 C, .int .i64 D, .int .i64 E, .int .i64 F] 43 (0, 0)) ∧ u.heap[w.heap.size + 1 + 1]? = some (.cells #[.slice none 0 0, .slice none 0 0] 50 (0, 0)) ∧ u.heap[ob]? = some (.cells #[.slice av n cv, .slice p k cp] 50 (0, 0)) ∧ u.ownsRow w2.heap.size 3 1 (.slice av n cv) n ((listN vf n).map Iv) ∧ u.ownsRow W4.heap.size 55 2 (.slice p k cp) k (ptsV (listN (fun i => mvP A B C D E F (pf i)) k)) ∧ Below w.heap.size w u ∧ ob + 1 ≤ u.heap.size) (fun i _ => m - (intOf i).toNat)
  case atStart => exact ⟨0, none, 0, Nat.zero_le _, rfl, unhide R0, unhide R2, unhide R3, unhide O1, World.ownsRow_nil _ _ _ _, unhide HB, by rw [unhide B4]; exact Nat.le_refl _⟩
  case round =>
    clear R0 R2 R3 O1 HB
    obtain ⟨k, p, cp, hk, rfl, R0, R2, R3, O1, O2, hb, hsz⟩ := hrel
    by_cases hlt : k < m
    · have HZ := (unhide P k hlt).next hb
      have ez : Hid (listN (fun i => mvP A B C D E F (pf i)) (k + 1) = listN (fun i => mvP A B C D E F (pf i)) k ++ [mvP A B C D E F (pf k)]) := listN_more _ _
      generalize hl : listN (fun i => mvP A B C D E F (pf i)) k = l at O2 ez
      have hll : l.length = k := by rw [← hl]; exact listN_len _ _
      replace hl := hide hl
      generalize pf k = z at HZ ez
      obtain ⟨x0, y0⟩ := z
      obtain ⟨s, o, rfl, g0, g1⟩ := HZ
      dsimp only at g0 g1
      have EA' := hide (unhide EA x0 y0)
      change Hid (listN (fun i => mvP A B C D E F (pf i)) (k + 1) = l ++ [(applyX A B C D E F x0 y0, applyY A B C D E F x0 y0)]) at ez
      generalize applyX A B C D E F x0 y0 = X at EA' ez
      generalize applyY A B C D E F x0 y0 = Y at EA' ez
      replace R0 := hide R0
      replace R2 := hide R2
      replace R3 := hide R3
      replace O1 := hide O1
      replace O2 := hide O2
      have HB := hide hb
      clear hb
      replace hsz := hide hsz
      go_wp2_with fail
      clear g0 g1
      obtain ⟨W5, hW⟩ : ∃ W, W = wr.alloc (.cells #[.int .i64 x0, .int .i64 y0] 55) := ⟨_, rfl⟩
      have P5 := hide (show W5.heap[wr.heap.size]? = some (.cells #[.int .i64 x0, .int .i64 y0] 55 (0, 0)) by rw [hW]; exact new_row _ _)
      replace R0 := hide (show W5.heap[w.heap.size]? = some (.cells #[.int .i64 A, .int .i64 B, .int .i64 C, .int .i64 D, .int .i64 E, .int .i64 F] 43 (0, 0)) by rw [hW]; exact old_row _ (unhide R0))
      replace R2 := hide (show W5.heap[w.heap.size + 1 + 1]? = some (.cells #[.slice none 0 0, .slice none 0 0] 50 (0, 0)) by rw [hW]; exact old_row _ (unhide R2))
      replace R3 := hide (show W5.heap[ob]? = some (.cells #[.slice av n cv, .slice p k cp] 50 (0, 0)) by rw [hW]; exact old_row _ (unhide R3))
      replace O1 := hide (show W5.ownsRow w2.heap.size 3 1 (.slice av n cv) n ((listN vf n).map Iv) by rw [hW]; exact (unhide O1).alloc _)
      replace O2 := hide (show W5.ownsRow W4.heap.size 55 2 (.slice p k cp) k (ptsV l) by rw [hW]; exact (unhide O2).alloc _)
      replace HB := hide (show Below w.heap.size w W5 by rw [hW]; exact below_new _ (unhide HB) (Nat.le_refl _))
      replace hsz := hide (show ob + 1 ≤ W5.heap.size by rw [hW]; have := unhide hsz; simp; omega)
      rw [← hW]
      clear hW
      generalize wr.heap.size = ps at P5 ⊢
      obtain ⟨q0, q1, q2, q3, q4, q5⟩ := row6 (unhide R0)
      obtain ⟨t0, t1⟩ := row2 (unhide P5)
      obtain ⟨u0, u1⟩ := row2 (unhide R3)
      go_region_law (first | (refine step_call rfl 102 _ (by go_simp) (unhide EA' _) ?_; rintro r w5 ⟨rfl, hb5⟩; refine ⟨_, rfl, ?_⟩; have z1 := kc hb5 u1; have z2 := kn (.cells #[.int .i64 X, .int .i64 Y] 55) z1; have D5 := hide (show Below W5.heap.size W5 w5 from below_undrew hb5)) | (refine step_append_any rfl _ _ 48 55 rfl W4.heap.size i2 (.agg #[.int .i64 0, .int .i64 0]) 2 16 Tryz.underlying48 hi2 hz2 hs2 hb2 rfl (by decide) (.slice p k cp) k (ptsV l) (by rfl) ((own_below (unhide O2) (unhide D5)).alloc _) ⟨w5.heap.size, 0, none⟩ 1 1 (ptV (X, Y)) (by rfl) (by rfl) (pt_cells w5 X Y _) (pt_one X Y) (by unfold maxLen; omega) (by omega) W5 (ob + 1) (by rw [unhide B4]; exact Nat.le_refl _) (by rw [unhide B4]; have h1 := (unhide D5).size; have h2 := unhide hsz; simp; omega) (below_new _ ((unhide D5).mono (unhide hsz)) (unhide hsz)) ?_; intro v' w6 O6 D6; obtain ⟨p', cp', rfl⟩ := own_form O6; have R6 := hide ((D6.block ob (Nat.lt_succ_self _)).trans (unhide R3)); obtain ⟨h0, h1⟩ := row2 (unhide R6); obtain ⟨f0, f1⟩ := free2 (unhide R6); replace O6 := hide O6; replace D6 := hide D6))
      all_goals
        clear z1 z2 h0 h1 f0 f1
        go_wp2_with fail
        go_roundw
        case rel =>
          have lb1 := unhide lb
          refine ⟨k + 1, p', cp', by omega, by go_num, ?_, ?_, ?_, ?_, ?_, ?_, ?_⟩
          · exact setc_other (by omega) (((unhide D6).block _ (by omega)).trans (unhide R0))
          · exact setc_other (by omega) (((unhide D6).block _ (by omega)).trans (unhide R2))
          · exact set2_1 (unhide R6)
          · exact own_setc_ne (own_part (unhide O1) (unhide D6) (fun k hk => Nat.lt_succ_of_lt (unhide lv k hk))) (fun k hk => by have := unhide lv k hk; omega)
          · have := own_setc_ne (g := ob) (j := 1) (u := .slice p' (k + 1) cp') (unhide O6) (fun k hk => by have := (unhide O6).lt k hk; rw [unhide B4] at this; omega)
            rw [unhide ez, ptsV_app]
            exact this
          · exact ((unhide HB).trans ((unhide D6).mono (by omega))).setCell (p := ⟨ob, 1, none⟩) (by dsimp only; omega) _
          · rw [setc_size]; exact Nat.le_trans (unhide hsz) (unhide D6).size
        case measure => simp [intOf]; omega
    · have hke : k = m := by omega
      subst hke
      obtain ⟨u0, u1⟩ := row2 R3
      obtain ⟨e0, e1⟩ := row2 R2
      obtain ⟨f0, f1⟩ := free2 R2
      replace R2 := hide R2
      replace R3 := hide R3
      replace R0 := hide R0
      replace O1 := hide O1
      replace O2 := hide O2
      replace hb := hide hb
      go_wp2_with fail
      refine bodyPost_ret (v := .agg #[.slice av n cv, .slice p k cp]) (by simp [results, Tryz.results58, go_sem, e0, e1]) rfl ?_
      have lb1 := unhide lb
      refine ⟨_, _, _, _, rfl, ⟨own_low (own_setc_ne (own_setc_ne (unhide O1) ?_) ?_) lb1, own_low (own_setc_ne (own_setc_ne (unhide O2) ?_) ?_) (by rw [unhide B4]; omega), ?_⟩, ix_listN vf n, px_listN _ _, below_put2 (unhide hb) (by omega) _ _⟩
      · intro q hq e; have := ((unhide O1).lt q hq).1; have := unhide lz; omega
      · intro q hq e; have := ((unhide O1).lt q hq).1; have := unhide lz; omega
      · intro q hq e; have := ((unhide O2).lt q hq).1; rw [unhide B4] at this; omega
      · intro q hq e; have := ((unhide O2).lt q hq).1; rw [unhide B4] at this; omega
      · cases hq : (Value.slice av n cv).ownBlock with
        | none => exact .inl rfl
        | some q => exact .inr fun e => by have h1 := unhide lv q hq; have h2 := ((unhide O2).lt q e.symm).1; rw [unhide B4] at h2; omega
end Go.Proofs.YtdbphpekhmlmdabGreat

/-
  MovePath where the verbs may be nil: the program's. (By moveu.py.)
-/
namespace Go.Proofs.YtdbphpekhmlmdabGreat
open Go.RowKit

theorem nilInts (w : World) : (binOp .eql 47 (.slice none 0 0) (.slice none 0 0)).run Tryz.prog w = .ok (.bool true) w := by kernel_rfl
attribute [local go_sem ↓] nilInts in
set_option maxHeartbeats 4000000 in
theorem slicesClone_nil (w : World) : Calls Tryz.prog 101 #[.slice none 0 0] w fun r w' => r = .returned (.slice none 0 0) ∧ Below w.heap.size w w' := by
  go_enter Tryz.func101, Tryz.ntmps101
  go_wp2_with fail
  go_ret
  exact ⟨rfl, Below.refl _ _⟩
attribute [local go_sem ↓] notNilInts in
set_option maxHeartbeats 4000000 in
theorem slicesClone_ad (vf : Nat → Int) (ad : Addr) (n c : Nat) (hn : n ≤ 1048576) (w : World) (V : ∀ i, i < n → IntAt w (some ad) i (vf i)) :
    Calls Tryz.prog 101 #[.slice (some ad) n c] w fun r w' => ∃ av cv, r = .returned (.slice av n cv) ∧ w'.ownsRow w.heap.size 3 1 (.slice av n cv) n ((listN vf n).map Iv) ∧ Below w.heap.size w w' := by
  obtain ⟨i1, hi1, hz1, hs1, hb1⟩ := info_parts Tryz.info3
  have oE := hide (show (w.alloc (.cells #[] 3)).ownsRow w.heap.size 3 1 (.slice (some ⟨w.heap.size, 0, none⟩) 0 0) 0 [] from World.ownsRow_lit w #[] 0 (Nat.le_refl _) (by decide) rfl)
  have VE := hide (fun i (hi : i < n) => (V i hi).next (al1_below w (.cells #[] 3)))
  clear V
  go_enter Tryz.func101, Tryz.ntmps101
  go_wp2_with (at_builtin; go_must (refine wpList_append_vs (w.alloc (.cells #[] 3)) rfl _ _ rfl w.heap.size i1 hi1 hz1 hs1 hb1 _ (by rfl) (unhide oE) vf (some ad) n c (fun e => by cases e) hn (by rfl) (unhide VE) (by simp) ?_); intro v1 w3 ho hg; obtain ⟨av, cv, rfl⟩ := own_form ho; have O1 := hide ho; have G3 := hide hg; clear ho hg)
  replace G3 := hide (below_of_grown (B := w.heap.size) (unhide G3) (by simp) (fun k hk => by simp [Value.ownBlock] at hk; omega))
  replace G3 := hide ((al1_below w (.cells #[] 3)).trans (unhide G3))
  go_ret
  exact ⟨av, cv, rfl, unhide O1, unhide G3⟩
theorem slicesClone_gen (vf : Nat → Int) (a : Option Addr) (n c : Nat) (ha : a = none → n = 0 ∧ c = 0) (hn : n ≤ 1048576) (w : World) (V : ∀ i, i < n → IntAt w a i (vf i)) :
    Calls Tryz.prog 101 #[.slice a n c] w fun r w' => ∃ av cv, r = .returned (.slice av n cv) ∧ w'.ownsRow w.heap.size 3 1 (.slice av n cv) n ((listN vf n).map Iv) ∧ Below w.heap.size w w' := by
  cases a with
  | none =>
    obtain ⟨rfl, rfl⟩ := ha rfl
    exact (slicesClone_nil w).mono fun r w' h => ⟨none, 0, h.1, ⟨rfl, .inl ⟨rfl, rfl⟩⟩, h.2⟩
  | some ad => exact slicesClone_ad vf ad n c hn w V

set_option maxHeartbeats 8000000 in
set_option maxRecDepth 100000 in
theorem implMovePath_gen (A B C D E F : Int) (vf : Nat → Int) (pf : Nat → Int × Int) (a b : Option Addr) (n c m d : Nat) (ha : a = none → n = 0 ∧ c = 0) (hn : n ≤ 1048576) (hm : m ≤ 1048576) (w : World)
    (x : Bool) (hx : x = true ↔ Right vf n pf m) (V : ∀ i, i < n → IntAt w a i (vf i)) (P : ∀ i, i < m → PtArg w b i (pf i)) :
    Calls Tryz.prog 58 #[.agg #[.int .i64 A, .int .i64 B, .int .i64 C, .int .i64 D, .int .i64 E, .int .i64 F], .agg #[.slice a n c, .slice b m d]] w fun r w' =>
      PathRes w r w' (okN (x && matOkB A B C D E F) n) (okN (x && matOkB A B C D E F) m) vf (fun i => mvP A B C D E F (pf i)) := by
  obtain ⟨i2, hi2, hz2, hs2, hb2⟩ := info_parts infoPoint
  have EO := hide (fun u V P => implPathOk_any vf pf a b n c m d hn hm u x hx V P)
  have EM := hide (implMatOk_any A B C D E F)
  have EA := hide (fun x y => implApply_any A B C D E F x y)
  have EC := hide (fun u V => slicesClone_gen vf a n c ha hn u V)
  generalize matOkB A B C D E F = y at EM ⊢
  replace V := hide V
  replace P := hide P
  replace hx := hide hx
  go_enter Tryz.func58, Tryz.ntmps58
  go_wp2_with fail
  obtain ⟨W, hW⟩ : ∃ W, W = ((w.alloc (.cells #[.int .i64 A, .int .i64 B, .int .i64 C, .int .i64 D, .int .i64 E, .int .i64 F] 43)).alloc (.cells #[.slice a n c, .slice b m d] 50)).alloc (.cells #[.slice none 0 0, .slice none 0 0] 50) := ⟨_, rfl⟩
  have HB := hide (show Below w.heap.size w W by rw [hW]; exact al3_below _ _ _ _)
  have R0 := hide (show W.heap[w.heap.size]? = some (.cells #[.int .i64 A, .int .i64 B, .int .i64 C, .int .i64 D, .int .i64 E, .int .i64 F] 43 (0, 0)) by rw [hW]; exact al3_0 _ _ _ _)
  have R1 := hide (show W.heap[w.heap.size + 1]? = some (.cells #[.slice a n c, .slice b m d] 50 (0, 0)) by rw [hW]; exact al3_1 _ _ _ _)
  have R2 := hide (show W.heap[w.heap.size + 1 + 1]? = some (.cells #[.slice none 0 0, .slice none 0 0] 50 (0, 0)) by rw [hW]; exact al3_2 _ _ _ _)
  rw [← hW]
  clear hW
  go_fit (unhide EM _)
  rintro r w1 ⟨rfl, hb⟩
  replace HB := hide (below_two (unhide HB) hb)
  replace R0 := hide (row_next hb (unhide R0))
  replace R1 := hide (row_next hb (unhide R1))
  replace R2 := hide (row_next hb (unhide R2))
  clear hb EM
  cases y with
  | false =>
    obtain ⟨f0, f1⟩ := free2 (unhide R2)
    obtain ⟨c0, c1⟩ := row2 (unhide R2)
    go_wp2_with fail
    refine bodyPost_ret (v := .agg #[.slice none 0 0, .slice none 0 0]) (by simp [results, Tryz.results58, go_sem, c0, c1]) rfl ?_
    rw [Bool.and_false]
    exact res_none (below_put2 (unhide HB) (by omega) _ _)
  | true =>
  obtain ⟨t0, t1⟩ := row2 (unhide R1)
  go_wp2_with fail
  go_fit (unhide EO _ (fun i hi => (unhide V i hi).next (unhide HB)) (fun i hi => (unhide P i hi).next (unhide HB)))
  rintro r w2 ⟨rfl, hb⟩
  replace HB := hide (below_two (unhide HB) hb)
  replace R0 := hide (row_next hb (unhide R0))
  replace R1 := hide (row_next hb (unhide R1))
  replace R2 := hide (row_next hb (unhide R2))
  clear hb EO t0 t1
  cases x with
  | false =>
    obtain ⟨f0, f1⟩ := free2 (unhide R2)
    obtain ⟨c0, c1⟩ := row2 (unhide R2)
    go_wp2_with fail
    refine bodyPost_ret (v := .agg #[.slice none 0 0, .slice none 0 0]) (by simp [results, Tryz.results58, go_sem, c0, c1]) rfl ?_
    exact res_none (below_put2 (unhide HB) (by omega) _ _)
  | true =>
  obtain ⟨c0, c1⟩ := row2 (unhide R1)
  go_wp2_with fail
  go_fit (unhide EC _ (fun i hi => (unhide V i hi).next (unhide HB)))
  rintro r w3 ⟨av, cv, rfl, O1, hb⟩
  have lv := hide (show ∀ k, (Value.slice av n cv).ownBlock = some k → k < w3.heap.size from fun k hk => (O1.lt k hk).2)
  have lb := hide (unhide HB).size
  have lo := hide hb.size
  have lz : Hid (w.heap.size + 1 + 1 < w2.heap.size) := heap_lt (unhide R2)
  replace R0 := hide (row_next hb (unhide R0))
  replace R1 := hide (row_next hb (unhide R1))
  replace R2 := hide (row_next hb (unhide R2))
  replace HB := hide (below_two (unhide HB) hb)
  replace O1 := hide O1
  clear hb c0 c1 EC
  obtain ⟨c0, c1⟩ := row2 (old_row (.cells #[.slice av n cv, .slice none 0 0] 50) (unhide R1))
  go_wp2_with fail
  clear c0 c1
  obtain ⟨W4, hW⟩ : ∃ W, W = w3.alloc (.cells #[.slice av n cv, .slice none 0 0] 50) := ⟨_, rfl⟩
  have R3 := hide (show W4.heap[w3.heap.size]? = some (.cells #[.slice av n cv, .slice none 0 0] 50 (0, 0)) by rw [hW]; exact new_row _ _)
  replace O1 := hide (show W4.ownsRow w2.heap.size 3 1 (.slice av n cv) n ((listN vf n).map Iv) by rw [hW]; exact (unhide O1).alloc _)
  replace R0 := hide (show W4.heap[w.heap.size]? = some (.cells #[.int .i64 A, .int .i64 B, .int .i64 C, .int .i64 D, .int .i64 E, .int .i64 F] 43 (0, 0)) by rw [hW]; exact old_row _ (unhide R0))
  replace R2 := hide (show W4.heap[w.heap.size + 1 + 1]? = some (.cells #[.slice none 0 0, .slice none 0 0] 50 (0, 0)) by rw [hW]; exact old_row _ (unhide R2))
  replace HB := hide (show Below w.heap.size w W4 by rw [hW]; exact below_new _ (unhide HB) (Nat.le_refl _))
  have B4 := hide (show W4.heap.size = w3.heap.size + 1 by rw [hW]; simp)
  rw [← hW]
  clear hW R1
  have l2' : w.heap.size + 1 + 1 < w3.heap.size := Nat.lt_of_lt_of_le (unhide lz) (unhide lo)
  have l0' : w.heap.size < w3.heap.size := by omega
  generalize w3.heap.size = ob at l0' l2' R3 lv lo B4 ⊢
  go_loopw [24] (fun i u => ∃ (k : Nat) (p : Option Addr) (cp : Nat), k ≤ m ∧ i = .int .i64 k ∧ u.heap[w.heap.size]? = some (.cells #[.int .i64 A, .int .i64 B, .int .i64 C, .int .i64 D, .int .i64 E, .int .i64 F] 43 (0, 0)) ∧ u.heap[w.heap.size + 1 + 1]? = some (.cells #[.slice none 0 0, .slice none 0 0] 50 (0, 0)) ∧ u.heap[ob]? = some (.cells #[.slice av n cv, .slice p k cp] 50 (0, 0)) ∧ u.ownsRow w2.heap.size 3 1 (.slice av n cv) n ((listN vf n).map Iv) ∧ u.ownsRow W4.heap.size 55 2 (.slice p k cp) k (ptsV (listN (fun i => mvP A B C D E F (pf i)) k)) ∧ Below w.heap.size w u ∧ ob + 1 ≤ u.heap.size) (fun i _ => m - (intOf i).toNat)
  case atStart => exact ⟨0, none, 0, Nat.zero_le _, rfl, unhide R0, unhide R2, unhide R3, unhide O1, World.ownsRow_nil _ _ _ _, unhide HB, by rw [unhide B4]; exact Nat.le_refl _⟩
  case round =>
    clear R0 R2 R3 O1 HB
    obtain ⟨k, p, cp, hk, rfl, R0, R2, R3, O1, O2, hb, hsz⟩ := hrel
    by_cases hlt : k < m
    · have HZ := (unhide P k hlt).next hb
      have ez : Hid (listN (fun i => mvP A B C D E F (pf i)) (k + 1) = listN (fun i => mvP A B C D E F (pf i)) k ++ [mvP A B C D E F (pf k)]) := listN_more _ _
      generalize hl : listN (fun i => mvP A B C D E F (pf i)) k = l at O2 ez
      have hll : l.length = k := by rw [← hl]; exact listN_len _ _
      replace hl := hide hl
      generalize pf k = z at HZ ez
      obtain ⟨x0, y0⟩ := z
      obtain ⟨s, o, rfl, g0, g1⟩ := HZ
      dsimp only at g0 g1
      have EA' := hide (unhide EA x0 y0)
      change Hid (listN (fun i => mvP A B C D E F (pf i)) (k + 1) = l ++ [(applyX A B C D E F x0 y0, applyY A B C D E F x0 y0)]) at ez
      generalize applyX A B C D E F x0 y0 = X at EA' ez
      generalize applyY A B C D E F x0 y0 = Y at EA' ez
      replace R0 := hide R0
      replace R2 := hide R2
      replace R3 := hide R3
      replace O1 := hide O1
      replace O2 := hide O2
      have HB := hide hb
      clear hb
      replace hsz := hide hsz
      go_wp2_with fail
      clear g0 g1
      obtain ⟨W5, hW⟩ : ∃ W, W = wr.alloc (.cells #[.int .i64 x0, .int .i64 y0] 55) := ⟨_, rfl⟩
      have P5 := hide (show W5.heap[wr.heap.size]? = some (.cells #[.int .i64 x0, .int .i64 y0] 55 (0, 0)) by rw [hW]; exact new_row _ _)
      replace R0 := hide (show W5.heap[w.heap.size]? = some (.cells #[.int .i64 A, .int .i64 B, .int .i64 C, .int .i64 D, .int .i64 E, .int .i64 F] 43 (0, 0)) by rw [hW]; exact old_row _ (unhide R0))
      replace R2 := hide (show W5.heap[w.heap.size + 1 + 1]? = some (.cells #[.slice none 0 0, .slice none 0 0] 50 (0, 0)) by rw [hW]; exact old_row _ (unhide R2))
      replace R3 := hide (show W5.heap[ob]? = some (.cells #[.slice av n cv, .slice p k cp] 50 (0, 0)) by rw [hW]; exact old_row _ (unhide R3))
      replace O1 := hide (show W5.ownsRow w2.heap.size 3 1 (.slice av n cv) n ((listN vf n).map Iv) by rw [hW]; exact (unhide O1).alloc _)
      replace O2 := hide (show W5.ownsRow W4.heap.size 55 2 (.slice p k cp) k (ptsV l) by rw [hW]; exact (unhide O2).alloc _)
      replace HB := hide (show Below w.heap.size w W5 by rw [hW]; exact below_new _ (unhide HB) (Nat.le_refl _))
      replace hsz := hide (show ob + 1 ≤ W5.heap.size by rw [hW]; have := unhide hsz; simp; omega)
      rw [← hW]
      clear hW
      generalize wr.heap.size = ps at P5 ⊢
      obtain ⟨q0, q1, q2, q3, q4, q5⟩ := row6 (unhide R0)
      obtain ⟨t0, t1⟩ := row2 (unhide P5)
      obtain ⟨u0, u1⟩ := row2 (unhide R3)
      go_region_law (first | (refine step_call rfl 102 _ (by go_simp) (unhide EA' _) ?_; rintro r w5 ⟨rfl, hb5⟩; refine ⟨_, rfl, ?_⟩; have z1 := kc hb5 u1; have z2 := kn (.cells #[.int .i64 X, .int .i64 Y] 55) z1; have D5 := hide (show Below W5.heap.size W5 w5 from below_undrew hb5)) | (refine step_append_any rfl _ _ 48 55 rfl W4.heap.size i2 (.agg #[.int .i64 0, .int .i64 0]) 2 16 Tryz.underlying48 hi2 hz2 hs2 hb2 rfl (by decide) (.slice p k cp) k (ptsV l) (by rfl) ((own_below (unhide O2) (unhide D5)).alloc _) ⟨w5.heap.size, 0, none⟩ 1 1 (ptV (X, Y)) (by rfl) (by rfl) (pt_cells w5 X Y _) (pt_one X Y) (by unfold maxLen; omega) (by omega) W5 (ob + 1) (by rw [unhide B4]; exact Nat.le_refl _) (by rw [unhide B4]; have h1 := (unhide D5).size; have h2 := unhide hsz; simp; omega) (below_new _ ((unhide D5).mono (unhide hsz)) (unhide hsz)) ?_; intro v' w6 O6 D6; obtain ⟨p', cp', rfl⟩ := own_form O6; have R6 := hide ((D6.block ob (Nat.lt_succ_self _)).trans (unhide R3)); obtain ⟨h0, h1⟩ := row2 (unhide R6); obtain ⟨f0, f1⟩ := free2 (unhide R6); replace O6 := hide O6; replace D6 := hide D6))
      all_goals
        clear z1 z2 h0 h1 f0 f1
        go_wp2_with fail
        go_roundw
        case rel =>
          have lb1 := unhide lb
          refine ⟨k + 1, p', cp', by omega, by go_num, ?_, ?_, ?_, ?_, ?_, ?_, ?_⟩
          · exact setc_other (by omega) (((unhide D6).block _ (by omega)).trans (unhide R0))
          · exact setc_other (by omega) (((unhide D6).block _ (by omega)).trans (unhide R2))
          · exact set2_1 (unhide R6)
          · exact own_setc_ne (own_part (unhide O1) (unhide D6) (fun k hk => Nat.lt_succ_of_lt (unhide lv k hk))) (fun k hk => by have := unhide lv k hk; omega)
          · have := own_setc_ne (g := ob) (j := 1) (u := .slice p' (k + 1) cp') (unhide O6) (fun k hk => by have := (unhide O6).lt k hk; rw [unhide B4] at this; omega)
            rw [unhide ez, ptsV_app]
            exact this
          · exact ((unhide HB).trans ((unhide D6).mono (by omega))).setCell (p := ⟨ob, 1, none⟩) (by dsimp only; omega) _
          · rw [setc_size]; exact Nat.le_trans (unhide hsz) (unhide D6).size
        case measure => simp [intOf]; omega
    · have hke : k = m := by omega
      subst hke
      obtain ⟨u0, u1⟩ := row2 R3
      obtain ⟨e0, e1⟩ := row2 R2
      obtain ⟨f0, f1⟩ := free2 R2
      replace R2 := hide R2
      replace R3 := hide R3
      replace R0 := hide R0
      replace O1 := hide O1
      replace O2 := hide O2
      replace hb := hide hb
      go_wp2_with fail
      refine bodyPost_ret (v := .agg #[.slice av n cv, .slice p k cp]) (by simp [results, Tryz.results58, go_sem, e0, e1]) rfl ?_
      have lb1 := unhide lb
      refine ⟨_, _, _, _, rfl, ⟨own_low (own_setc_ne (own_setc_ne (unhide O1) ?_) ?_) lb1, own_low (own_setc_ne (own_setc_ne (unhide O2) ?_) ?_) (by rw [unhide B4]; omega), ?_⟩, ix_listN vf n, px_listN _ _, below_put2 (unhide hb) (by omega) _ _⟩
      · intro q hq e; have := ((unhide O1).lt q hq).1; have := unhide lz; omega
      · intro q hq e; have := ((unhide O1).lt q hq).1; have := unhide lz; omega
      · intro q hq e; have := ((unhide O2).lt q hq).1; rw [unhide B4] at this; omega
      · intro q hq e; have := ((unhide O2).lt q hq).1; rw [unhide B4] at this; omega
      · cases hq : (Value.slice av n cv).ownBlock with
        | none => exact .inl rfl
        | some q => exact .inr fun e => by have h1 := unhide lv q hq; have h2 := ((unhide O2).lt q e.symm).1; rw [unhide B4] at h2; omega
end Go.Proofs.YtdbphpekhmlmdabGreat

/-
  Points on curves: the arithmetic of both sides, and the program's weighed.
-/
namespace Go.Proofs.YtdbphpekhmlmdabGreat
open Go.RowKit

def wsum (wf g : Nat → Int) : Nat → Int
  | 0 => 0
  | k + 1 => wsum wf g k + wf k * g k

theorem wsum_bd {wf g : Nat → Int} {n : Nat} (hw : ∀ i, i < n → 0 ≤ wf i ∧ wf i ≤ 512) (hg : ∀ i, i < n → -8388608 ≤ g i ∧ g i ≤ 8388608) :
    ∀ k, k ≤ n → -((k : Int) * 4294967296) ≤ wsum wf g k ∧ wsum wf g k ≤ (k : Int) * 4294967296
  | 0, _ => by simp [wsum]
  | k + 1, h => by
    have ih := wsum_bd hw hg k (by omega)
    have h1 := hw k (by omega)
    have h2 := hg k (by omega)
    have h3 := mul_bd (A := 512) (X := 8388608) (by omega) h1.2 h2.1 h2.2
    simp only [wsum]
    omega

theorem wone {wf : Nat → Int} (k : Nat) : wsum wf (fun _ => 1) (k + 1) = wsum wf (fun _ => 1) k + wf k := by simp [wsum]

def quadI (a b c i : Int) : Int := rdivI ((4 - i) * (4 - i) * a + 2 * i * (4 - i) * b + i * i * c) 16
def cubicI (a b c d i : Int) : Int := rdivI ((8 - i) * (8 - i) * (8 - i) * a + 3 * i * (8 - i) * (8 - i) * b + 3 * i * i * (8 - i) * c + i * i * i * d) 512
def quadOk (a b c : Int × Int) : Bool := pointOkB a.1 a.2 && (pointOkB b.1 b.2 && pointOkB c.1 c.2)
def cubicOk (a b c d : Int × Int) : Bool := pointOkB a.1 a.2 && (pointOkB b.1 b.2 && (pointOkB c.1 c.2 && pointOkB d.1 d.2))
def quadP (a b c : Int × Int) (i : Int) : Int × Int := if quadOk a b c = true then (quadI a.1 b.1 c.1 (clampI i 0 4), quadI a.2 b.2 c.2 (clampI i 0 4)) else (0, 0)
def cubicP (a b c d : Int × Int) (i : Int) : Int × Int := if cubicOk a b c d = true then (cubicI a.1 b.1 c.1 d.1 (clampI i 0 8), cubicI a.2 b.2 c.2 d.2 (clampI i 0 8)) else (0, 0)

theorem clamp_in {x h : Int} (hh : 0 ≤ h) : 0 ≤ clampI x 0 h ∧ clampI x 0 h ≤ h := by unfold clampI; split <;> (try split) <;> omega

theorem four_cases {i : Int} (h : 0 ≤ i ∧ i ≤ 4) : i = 0 ∨ i = 1 ∨ i = 2 ∨ i = 3 ∨ i = 4 := by omega
theorem eight_cases {i : Int} (h : 0 ≤ i ∧ i ≤ 8) : i = 0 ∨ i = 1 ∨ i = 2 ∨ i = 3 ∨ i = 4 ∨ i = 5 ∨ i = 6 ∨ i = 7 ∨ i = 8 := by omega

theorem quad_in {a b c i lo hi : Int} (h : 0 ≤ i ∧ i ≤ 4) (a0 : lo ≤ a) (a1 : a ≤ hi) (b0 : lo ≤ b) (b1 : b ≤ hi) (c0 : lo ≤ c) (c1 : c ≤ hi) : lo ≤ quadI a b c i ∧ quadI a b c i ≤ hi := by
  unfold quadI rdivI
  rw [if_neg (by decide)]
  rcases four_cases h with rfl | rfl | rfl | rfl | rfl <;> split <;> omega
theorem cubic_in {a b c d i lo hi : Int} (h : 0 ≤ i ∧ i ≤ 8) (a0 : lo ≤ a) (a1 : a ≤ hi) (b0 : lo ≤ b) (b1 : b ≤ hi) (c0 : lo ≤ c) (c1 : c ≤ hi) (d0 : lo ≤ d) (d1 : d ≤ hi) : lo ≤ cubicI a b c d i ∧ cubicI a b c d i ≤ hi := by
  unfold cubicI rdivI
  rw [if_neg (by decide)]
  rcases eight_cases h with rfl | rfl | rfl | rfl | rfl | rfl | rfl | rfl | rfl <;> split <;> omega

set_option maxHeartbeats 4000000 in
set_option maxRecDepth 100000 in
theorem implWeighed_any (pf : Nat → Int × Int) (wf : Nat → Int) (b a : Option Addr) (m d n c : Nat) (hnm : n ≤ m) (hm : m ≤ 4)
    (hw : ∀ i, i < n → 0 ≤ wf i ∧ wf i ≤ 512) (hpx : ∀ i, i < n → -8388608 ≤ (pf i).1 ∧ (pf i).1 ≤ 8388608) (hpy : ∀ i, i < n → -8388608 ≤ (pf i).2 ∧ (pf i).2 ≤ 8388608)
    (w : World) (V : ∀ i, i < n → IntAt w a i (wf i)) (P : ∀ i, i < m → PtArg w b i (pf i)) :
    Calls Tryz.prog 180 #[.slice b m d, .slice a n c] w fun r w' => r = .returned (.agg #[.int .i64 (rdivI (wsum wf (fun i => (pf i).1) n) (wsum wf (fun _ => 1) n)), .int .i64 (rdivI (wsum wf (fun i => (pf i).2) n) (wsum wf (fun _ => 1) n))]) ∧ Below w.heap.size w w' := by
  have hX := hide (fun k hk => wsum_bd hw hpx k hk)
  have hY := hide (fun k hk => wsum_bd hw hpy k hk)
  have hO := hide (fun k hk => wsum_bd (g := fun _ => 1) hw (fun _ _ => by omega) k hk)
  replace hw := hide hw
  replace hpx := hide hpx
  replace hpy := hide hpy
  replace V := hide V
  replace P := hide P
  go_enter Tryz.func180, Tryz.ntmps180
  go_wp2_with fail
  obtain ⟨W, hW⟩ : ∃ W, W = w.alloc (.cells #[.int .i64 0, .int .i64 0] 55) := ⟨_, rfl⟩
  have R := hide (show W.heap[w.heap.size]? = some (.cells #[.int .i64 0, .int .i64 0] 55 (0, 0)) by rw [hW]; exact new_row _ _)
  have HB := hide (show Below w.heap.size w W by rw [hW]; exact al1_below _ _)
  rw [← hW]
  clear hW
  go_loopw [5, 6, 7, 12] (fun x y s i u => ∃ k : Nat, k ≤ n ∧ i = .int .i64 k ∧ x = .int .i64 (wsum wf (fun i => (pf i).1) k) ∧ y = .int .i64 (wsum wf (fun i => (pf i).2) k) ∧ s = .int .i64 (wsum wf (fun _ => 1) k) ∧ u = W) (fun _ _ _ i _ => n - (intOf i).toNat)
  case atStart => exact ⟨0, Nat.zero_le _, rfl, rfl, rfl, rfl, rfl⟩
  case round =>
    obtain ⟨k, hk, rfl, rfl, rfl, rfl, rfl⟩ := hrel
    by_cases hlt : k < n
    · have HV := (unhide V k hlt).next (unhide HB)
      have HP := (unhide P k (by omega)).next (unhide HB)
      have bX := unhide hX k hk
      have bY := unhide hY k hk
      have bO := unhide hO k hk
      have nX := unhide hX (k + 1) hlt
      have nY := unhide hY (k + 1) hlt
      have nO := unhide hO (k + 1) hlt
      have bw := unhide hw k hlt
      have bp := unhide hpx k hlt
      have bq := unhide hpy k hlt
      have m1 := mul_bd (A := 512) (X := 8388608) (by omega) bw.2 bp.1 bp.2
      have m2 := mul_bd (A := 512) (X := 8388608) (by omega) bw.2 bq.1 bq.2
      have eX : Hid (wsum wf (fun i => (pf i).1) (k + 1) = wsum wf (fun i => (pf i).1) k + wf k * (pf k).1) := rfl
      have eY : Hid (wsum wf (fun i => (pf i).2) (k + 1) = wsum wf (fun i => (pf i).2) k + wf k * (pf k).2) := rfl
      have eO : Hid (wsum wf (fun _ => 1) (k + 1) = wsum wf (fun _ => 1) k + wf k) := wone k
      rw [unhide eX] at nX
      rw [unhide eY] at nY
      rw [unhide eO] at nO
      generalize wsum wf (fun i => (pf i).1) k = X at bX nX eX ⊢
      generalize wsum wf (fun i => (pf i).2) k = Y at bY nY eY ⊢
      generalize wsum wf (fun _ => 1) k = O at bO nO eO ⊢
      generalize wf k = z at HV bw m1 m2 nX nY nO eX eY eO
      generalize pf k = p at HP bp bq m1 m2 nX nY eX eY
      obtain ⟨x0, y0⟩ := p
      obtain ⟨s, o, rfl, g0, g1⟩ := HP
      obtain ⟨s', o', rfl, g2⟩ := HV
      dsimp only at *
      have u1 : IntKind.i64.wrap (z * x0) = z * x0 := IntWalk.i64_in _ (by omega)
      have u2 : IntKind.i64.wrap (z * y0) = z * y0 := IntWalk.i64_in _ (by omega)
      have u3 : IntKind.i64.wrap (X + z * x0) = X + z * x0 := IntWalk.i64_in _ (by omega)
      have u4 : IntKind.i64.wrap (Y + z * y0) = Y + z * y0 := IntWalk.i64_in _ (by omega)
      have u5 : IntKind.i64.wrap (O + z) = O + z := IntWalk.i64_in _ (by omega)
      have hlm : (k : Int) < m := by omega
      clear bX bY bO nX nY nO bw bp bq m1 m2
      go_wp2_with fail
      go_roundw
      case rel => exact ⟨k + 1, hlt, by go_num, by rw [unhide eX], by rw [unhide eY], by rw [unhide eO], (by first | rfl | trivial)⟩
      case measure => simp [intOf]; omega
    · have hke : k = n := by omega
      subst hke
      have bX := unhide hX k hk
      have bY := unhide hY k hk
      have bO := unhide hO k hk
      obtain ⟨X, eX⟩ : ∃ X, X = wsum wf (fun i => (pf i).1) k := ⟨_, rfl⟩
      obtain ⟨Y, eY⟩ : ∃ Y, Y = wsum wf (fun i => (pf i).2) k := ⟨_, rfl⟩
      obtain ⟨O, eO⟩ : ∃ O, O = wsum wf (fun _ => 1) k := ⟨_, rfl⟩
      rw [← eX] at bX
      rw [← eY] at bY
      rw [← eO] at bO
      rw [← eX, ← eY, ← eO]
      have E1 := hide (implRoundDiv_any X O (by omega) (by omega) (by omega))
      have E2 := hide (implRoundDiv_any Y O (by omega) (by omega) (by omega))
      obtain ⟨qx, ex⟩ : ∃ q, q = rdivI X O := ⟨_, rfl⟩
      obtain ⟨qy, ey⟩ : ∃ q, q = rdivI Y O := ⟨_, rfl⟩
      rw [← ex] at E1
      rw [← ey] at E2
      have EE : Hid (Ending.returned (Value.agg #[Value.int IntKind.i64 qx, Value.int IntKind.i64 qy]) = Ending.returned (.agg #[.int .i64 (rdivI (wsum wf (fun i => (pf i).1) k) (wsum wf (fun _ => 1) k)), .int .i64 (rdivI (wsum wf (fun i => (pf i).2) k) (wsum wf (fun _ => 1) k))])) := by unfold Hid; rw [ex, ey, eX, eY, eO]
      clear ex ey eX eY eO
      clear bX bY bO
      go_wp2_with fail
      go_fit (unhide E1 _)
      rintro r w1 ⟨rfl, hb1⟩
      replace R := hide (row_next hb1 (unhide R))
      replace HB := hide (below_two (unhide HB) hb1)
      clear hb1
      go_wp2_with fail
      go_fit (unhide E2 _)
      rintro r w2 ⟨rfl, hb2⟩
      replace R := row_next hb2 (unhide R)
      replace HB := hide (below_two (unhide HB) hb2)
      clear hb2
      obtain ⟨r0, r1⟩ := row2 R
      obtain ⟨f0, f1⟩ := free2 R
      clear R
      go_wp2_with fail
      refine bodyPost_ret (v := .agg #[.int .i64 qx, .int .i64 qy]) (by simp [results, Tryz.results180, go_sem, r0, r1]) rfl ⟨unhide EE, ?_⟩
      exact below_put2 (unhide HB) (Nat.le_refl _) _ _
end Go.Proofs.YtdbphpekhmlmdabGreat

/-
  Lines for curves: what both sides reckon, and lists of lists of points in memory.
-/
namespace Go.Proofs.YtdbphpekhmlmdabGreat
open Go.RowKit

abbrev Pt := Int × Int
def lastP (l : List Pt) : Pt := l.getLastD (0, 0)
def firstP (l : List Pt) : Pt := l.headD (0, 0)
def quadL (a b c : Pt) : List Pt := (List.range 4).map fun (k : Nat) => quadP a b c ((k : Int) + 1)
def cubicL (a b c d : Pt) : List Pt := (List.range 8).map fun (k : Nat) => cubicP a b c d ((k : Int) + 1)
/-- What a verb but MoveTo adds to a line. -/
def addL (v : Int) (pf : Nat → Pt) (j : Nat) (l : List Pt) : List Pt :=
  if v = 2 then [pf j] else if v = 3 then quadL (lastP l) (pf j) (pf (j + 1)) else if v = 4 then cubicL (lastP l) (pf j) (pf (j + 1)) (pf (j + 2)) else if firstP l = lastP l then [] else [firstP l]
/-- The lines behind k verbs: those that are done, and the one under way. -/
def flatN (vf : Nat → Int) (pf : Nat → Pt) : Nat → List (List Pt) × List Pt
  | 0 => ([], [])
  | k + 1 => if vf k = 1 then (if k = 0 then [] else (flatN vf pf k).1 ++ [(flatN vf pf k).2], [pf (needN vf k)]) else ((flatN vf pf k).1, (flatN vf pf k).2 ++ addL (vf k) pf (needN vf k) (flatN vf pf k).2)
def flatL (x : Bool) (vf : Nat → Int) (pf : Nat → Pt) (n : Nat) : List (List Pt) := if x = true ∧ 0 < n then (flatN vf pf n).1 ++ [(flatN vf pf n).2] else []

theorem addL_len (v : Int) (pf : Nat → Pt) (j : Nat) (l : List Pt) : (addL v pf j l).length ≤ 8 := by
  unfold addL quadL cubicL; repeat' split
  all_goals simp
theorem flat_len (vf : Nat → Int) (pf : Nat → Pt) : ∀ k, (flatN vf pf k).1.length ≤ k ∧ (flatN vf pf k).2.length ≤ 8 * k
  | 0 => by simp [flatN]
  | k + 1 => by
    have h := flat_len vf pf k
    have h2 := addL_len (vf k) pf (needN vf k) (flatN vf pf k).2
    simp only [flatN]
    split
    · split <;> simp <;> omega
    · simp; omega
theorem flat_len1 (vf : Nat → Int) (pf : Nat → Pt) : ∀ k, ∀ l ∈ (flatN vf pf k).1, l.length ≤ 8 * k
  | 0 => by simp [flatN]
  | k + 1 => by
    have h := flat_len1 vf pf k
    have h2 := (flat_len vf pf k).2
    intro l hl
    simp only [flatN] at hl
    split at hl
    · split at hl
      · simp at hl
      · simp at hl
        rcases hl with hl | rfl
        · have := h l hl; omega
        · omega
    · have := h l hl; omega
/-- A line under way has a point. -/
theorem flat_pos {vf : Nat → Int} {pf : Nat → Pt} {n : Nat} (hv : ∀ j, j < n → VOk vf j) : ∀ k, k ≤ n → 0 < k → 0 < (flatN vf pf k).2.length
  | 0, _, h => absurd h (by omega)
  | k + 1, hk, _ => by
    simp only [flatN]
    split
    · simp
    · rename_i hne
      have h0 : 0 < k := by
        rcases Nat.eq_zero_or_pos k with rfl | h
        · exact absurd ((hv 0 (by omega)).2 (.inl rfl)) hne
        · exact h
      have := flat_pos (pf := pf) hv k (by omega) h0
      simp; omega
theorem quad_right {a b c : Pt} (ha : pointOkB a.1 a.2 = true) (hb : pointOkB b.1 b.2 = true) (hc : pointOkB c.1 c.2 = true) (i : Int) (hi : 0 ≤ i ∧ i ≤ 4) : quadP a b c i = (quadI a.1 b.1 c.1 i, quadI a.2 b.2 c.2 i) ∧ pointOkB (quadP a b c i).1 (quadP a b c i).2 = true := by
  have e : quadP a b c i = (quadI a.1 b.1 c.1 i, quadI a.2 b.2 c.2 i) := by
    unfold quadP; rw [if_pos (by unfold quadOk; rw [ha, hb, hc]; rfl), show clampI i 0 4 = i by unfold clampI; rw [if_neg (by omega), if_neg (by omega)]]
  refine ⟨e, ?_⟩
  rw [e]
  obtain ⟨⟨a1, a2⟩, a3, a4⟩ := point_bd ha
  obtain ⟨⟨b1, b2⟩, b3, b4⟩ := point_bd hb
  obtain ⟨⟨c1, c2⟩, c3, c4⟩ := point_bd hc
  have X := quad_in hi a1 a2 b1 b2 c1 c2
  have Y := quad_in hi a3 a4 b3 b4 c3 c4
  simp only [pointOkB, inB, Bool.and_eq_true, decide_eq_true_eq]
  omega
theorem cubic_right {a b c d : Pt} (ha : pointOkB a.1 a.2 = true) (hb : pointOkB b.1 b.2 = true) (hc : pointOkB c.1 c.2 = true) (hd : pointOkB d.1 d.2 = true) (i : Int) (hi : 0 ≤ i ∧ i ≤ 8) : cubicP a b c d i = (cubicI a.1 b.1 c.1 d.1 i, cubicI a.2 b.2 c.2 d.2 i) ∧ pointOkB (cubicP a b c d i).1 (cubicP a b c d i).2 = true := by
  have e : cubicP a b c d i = (cubicI a.1 b.1 c.1 d.1 i, cubicI a.2 b.2 c.2 d.2 i) := by
    unfold cubicP; rw [if_pos (by unfold cubicOk; rw [ha, hb, hc, hd]; rfl), show clampI i 0 8 = i by unfold clampI; rw [if_neg (by omega), if_neg (by omega)]]
  refine ⟨e, ?_⟩
  rw [e]
  obtain ⟨⟨a1, a2⟩, a3, a4⟩ := point_bd ha
  obtain ⟨⟨b1, b2⟩, b3, b4⟩ := point_bd hb
  obtain ⟨⟨c1, c2⟩, c3, c4⟩ := point_bd hc
  obtain ⟨⟨d1, d2⟩, d3, d4⟩ := point_bd hd
  have X := cubic_in hi a1 a2 b1 b2 c1 c2 d1 d2
  have Y := cubic_in hi a3 a4 b3 b4 c3 c4 d3 d4
  simp only [pointOkB, inB, Bool.and_eq_true, decide_eq_true_eq]
  omega

/-- Lists of points in memory, one behind another: each is the call's own, and each lies behind those ahead of it. -/
structure Lines (u : World) (base : Nat) (vs : List Value) (L : List (List Pt)) : Prop where
  len : vs.length = L.length
  own : ∀ (i : Nat) v l, vs[i]? = some v → L[i]? = some l → u.ownsRow base 55 2 v l.length (ptsV l)
  up : ∀ (i j : Nat) v v', i < j → vs[i]? = some v → vs[j]? = some v' → ∀ x y, v.ownBlock = some x → v'.ownBlock = some y → x < y
theorem Lines.nil (u : World) (base : Nat) : Lines u base [] [] := ⟨rfl, fun i v l h => by simp at h, fun i j v v' _ h => by simp at h⟩
theorem Lines.next {u u' : World} {base : Nat} {vs : List Value} {L : List (List Pt)} (h : Lines u base vs L) (hb : Below u.heap.size u u') : Lines u' base vs L :=
  ⟨h.len, fun i v l h1 h2 => own_below (h.own i v l h1 h2) hb, h.up⟩
theorem Lines.low {u : World} {base base' : Nat} {vs : List Value} {L : List (List Pt)} (h : Lines u base vs L) (hb : base' ≤ base) : Lines u base' vs L :=
  ⟨h.len, fun i v l h1 h2 => own_low (h.own i v l h1 h2) hb, h.up⟩
/-- All blocks lie below B. -/
def Under (B : Nat) (vs : List Value) : Prop := ∀ v ∈ vs, ∀ k, v.ownBlock = some k → k < B
theorem Lines.kept {u u' : World} {base B : Nat} {vs : List Value} {L : List (List Pt)} (h : Lines u base vs L) (hb : Below B u u') (hu : Under B vs) : Lines u' base vs L :=
  ⟨h.len, fun i v l h1 h2 => own_part (h.own i v l h1 h2) hb (hu v (List.mem_of_getElem? h1)), h.up⟩
theorem Lines.push {u : World} {base B : Nat} {vs : List Value} {L : List (List Pt)} {v : Value} {l : List Pt} (h : Lines u base vs L) (ho : u.ownsRow B 55 2 v l.length (ptsV l)) (hB : base ≤ B) (hu : Under B vs) : Lines u base (vs ++ [v]) (L ++ [l]) := by
  refine ⟨by simp [h.len], ?_, ?_⟩
  · intro i x y h1 h2
    by_cases hi : i < vs.length
    · rw [List.getElem?_append_left hi] at h1
      rw [List.getElem?_append_left (by rw [← h.len]; exact hi)] at h2
      exact h.own i x y h1 h2
    · have e : i = vs.length := by have := (List.getElem?_eq_some_iff.1 h1).1; simp at this; omega
      subst e
      rw [List.getElem?_concat_length] at h1
      rw [h.len, List.getElem?_concat_length] at h2
      cases h1; cases h2
      exact own_low ho hB
  · intro i j x y hij h1 h2 a b ha hb
    have hj := (List.getElem?_eq_some_iff.1 h2).1
    rw [List.length_append, List.length_singleton] at hj
    have hi : i < vs.length := by omega
    rw [List.getElem?_append_left hi] at h1
    by_cases hjl : j < vs.length
    · rw [List.getElem?_append_left hjl] at h2
      exact h.up i j x y hij h1 h2 a b ha hb
    · have e : j = vs.length := by omega
      subst e
      rw [List.getElem?_concat_length] at h2
      cases h2
      have h3 := hu x (List.mem_of_getElem? h1) a ha
      have h4 := (ho.lt b hb).1
      omega
theorem Under.push {B C : Nat} {vs : List Value} {v : Value} (h : Under B vs) (hBC : B ≤ C) (hv : ∀ k, v.ownBlock = some k → k < C) : Under C (vs ++ [v]) := by
  intro x hx k hk
  rw [List.mem_append, List.mem_singleton] at hx
  rcases hx with hx | rfl
  · have := h x hx k hk; omega
  · exact hv k hk
/-- A list of lists that a call hands back. -/
def LinesV (u : World) (base : Nat) (v : Value) (L : List (List Pt)) : Prop := ∃ vs, u.ownsRow base 48 1 v L.length vs ∧ Lines u base vs L
theorem LinesV.next {u u' : World} {base : Nat} {v : Value} {L : List (List Pt)} (h : LinesV u base v L) (hb : Below u.heap.size u u') : LinesV u' base v L :=
  let ⟨vs, h1, h2⟩ := h; ⟨vs, own_below h1 hb, h2.next hb⟩
theorem LinesV.low {u : World} {base base' : Nat} {v : Value} {L : List (List Pt)} (h : LinesV u base v L) (hb : base' ≤ base) : LinesV u base' v L :=
  let ⟨vs, h1, h2⟩ := h; ⟨vs, own_low h1 hb, h2.low hb⟩
end Go.Proofs.YtdbphpekhmlmdabGreat

/-
  What grows while a line is drawn on.
-/
namespace Go.Proofs.YtdbphpekhmlmdabGreat
open Go.RowKit
set_option linter.unusedVariables false

/-- Whatever is not made of points stands as it stood. -/
def KeepT (w w' : World) : Prop := ∀ (b : Nat) cs t f, w.heap[b]? = some (.cells cs t f) → t ≠ 55 → w'.heap[b]? = some (.cells cs t f)
theorem KeepT.refl (w : World) : KeepT w w := fun _ _ _ _ h _ => h
theorem KeepT.trans {a b c : World} (h : KeepT a b) (k : KeepT b c) : KeepT a c := fun x cs t f h1 h2 => k x cs t f (h x cs t f h1 h2) h2
theorem KeepT.of_below {w w' : World} (h : Below w.heap.size w w') : KeepT w w' := fun b cs t f h1 _ => (h.block b (heap_lt h1)).trans h1
theorem KeepT.of_grown {w w' : World} {base n s : Nat} {v : Value} {xs : List Value} (ho : w.ownsRow base 55 s v n xs) (hg : w.grownBy w' v.ownBlock) : KeepT w w' := by
  intro b cs t f h1 h2
  refine (hg.block b (heap_lt h1) ?_).trans h1
  intro e
  rcases ho.2 with ⟨rfl, _⟩ | ⟨g, cap, cur, rfl, _, h3, _⟩
  · simp [Value.ownBlock] at e
  · simp only [Value.ownBlock, Option.some.injEq] at e
    subst e
    rw [h1] at h3
    injection h3 with h3
    injection h3 with _ h4
    exact h2 h4
theorem KeepT.own {w w' : World} (h : KeepT w w') {base e s n : Nat} {v : Value} {xs : List Value} (ho : w.ownsRow base e s v n xs) (he : e ≠ 55) : w'.ownsRow base e s v n xs := by
  obtain ⟨h1, h2⟩ := ho
  refine ⟨h1, ?_⟩
  rcases h2 with h2 | ⟨g, cap, cur, e1, e2, h3, h4⟩
  · exact .inl h2
  · exact .inr ⟨g, cap, cur, e1, e2, h _ _ _ _ h3 he, h4⟩
theorem KeepT.drew {w w' : World} (h : KeepT w w') : KeepT w w'.drew := h
/-- 'append' of one point onto a line. -/
theorem wpList_append_pk {P : Program} {ops : Array Oper} {rest : List Oper} {o : Oper} {a : Act} {Q : Exit → Act → World → Prop} (wr : World) (hgd : o.guard = none) (s x : Operand) (t : TypeId)
    (ho : o.op = .call { callee := .builtin .append, args := #[s, x], argTypes := #[t, t] })
    (base : Nat) (i : TypeInfo) (z : Value) (bytes : Nat) (ht : P.underlying t = some (.slice 55)) (hi : P.info? 55 = some i) (hz : i.zero = some z) (hsize : i.size = 2) (hby : i.bytes = bytes) (hz1 : z.cells.size = 2)
    (v : Value) (l : List (Int × Int)) (hs : a.eval s = v) (hown : wr.ownsRow base 55 2 v l.length (ptsV l))
    (p q : Int) (c : Nat) (hx : a.eval x = .slice (some ⟨wr.heap.size, 0, none⟩) 1 c)
    (h63 : l.length + 1 ≤ maxLen) (hlen : (l.length + 1) * bytes ≤ 140737488355328) (hbase : base ≤ wr.heap.size)
    (h : ∀ v' w', w'.ownsRow base 55 2 v' (l ++ [(p, q)]).length (ptsV (l ++ [(p, q)])) → Below base wr w' → KeepT wr w' → wpList P ops Q rest (a.put o.dst v') w') :
    wpList P ops Q (o :: rest) a (wr.alloc (.cells #[.int .i64 p, .int .i64 q] 55)) := by
  refine wpList_append_own (wr.alloc (.cells #[.int .i64 p, .int .i64 q] 55)) hgd s x t ho base 55 i z 2 bytes ht hi hz hsize hby hz1 (by decide) v l.length (ptsV l) hs (hown.alloc _) ⟨wr.heap.size, 0, none⟩ 1 c (ptV (p, q)) hx (by simp [ptV]) (pt_cells wr p q _) (pt_one p q) h63 hlen (by simp; omega) ?_
  intro v' w' ho' hg _
  refine h v' w' ?_ ?_ ?_
  · have e1 : (l ++ [(p, q)]).length = l.length + 1 := by simp
    have e2 : ptsV (l ++ [(p, q)]) = ptsV l ++ ptV (p, q) := by rw [ptsV_app]; simp [ptsV]
    rw [e1, e2]; exact ho'
  · exact ((Below.refl base wr).alloc hbase _).grown hg (by simp; omega) (fun k hk => (hown.lt k hk).1)
  · exact (KeepT.of_below (al1_below _ _)).trans (KeepT.of_grown (hown.alloc _) hg)
end Go.Proofs.YtdbphpekhmlmdabGreat

/-
  Rows of five and six new blocks.
-/
namespace Go.Proofs.YtdbphpekhmlmdabGreat
open Go.RowKit

theorem al5_size (w : World) (A B C D E : Obj) : (((((w.alloc A).alloc B).alloc C).alloc D).alloc E).heap.size = w.heap.size + 5 := by simp
theorem al5_0 (w : World) (A B C D E : Obj) : (((((w.alloc A).alloc B).alloc C).alloc D).alloc E).heap[w.heap.size]? = some A := (heap_alloc_old _ _ (by rw [al4_size]; omega)).trans (al4_0 w A B C D)
theorem al5_1 (w : World) (A B C D E : Obj) : (((((w.alloc A).alloc B).alloc C).alloc D).alloc E).heap[w.heap.size + 1]? = some B := (heap_alloc_old _ _ (by rw [al4_size]; omega)).trans (al4_1 w A B C D)
theorem al5_2 (w : World) (A B C D E : Obj) : (((((w.alloc A).alloc B).alloc C).alloc D).alloc E).heap[w.heap.size + 1 + 1]? = some C := (heap_alloc_old _ _ (by rw [al4_size]; omega)).trans (al4_2 w A B C D)
theorem al5_3 (w : World) (A B C D E : Obj) : (((((w.alloc A).alloc B).alloc C).alloc D).alloc E).heap[w.heap.size + 1 + 1 + 1]? = some D := (heap_alloc_old _ _ (by rw [al4_size]; omega)).trans (al4_3 w A B C D)
theorem al5_4 (w : World) (A B C D E : Obj) : (((((w.alloc A).alloc B).alloc C).alloc D).alloc E).heap[w.heap.size + 1 + 1 + 1 + 1]? = some E := by have h := heap_alloc_new ((((w.alloc A).alloc B).alloc C).alloc D) E; rw [al4_size] at h; exact h
theorem al5_below (w : World) (A B C D E : Obj) : Below w.heap.size w (((((w.alloc A).alloc B).alloc C).alloc D).alloc E) := (al4_below w A B C D).alloc (by rw [al4_size]; omega) _

theorem al6_size (w : World) (A B C D E F : Obj) : ((((((w.alloc A).alloc B).alloc C).alloc D).alloc E).alloc F).heap.size = w.heap.size + 6 := by simp
theorem al6_0 (w : World) (A B C D E F : Obj) : ((((((w.alloc A).alloc B).alloc C).alloc D).alloc E).alloc F).heap[w.heap.size]? = some A := (heap_alloc_old _ _ (by rw [al5_size]; omega)).trans (al5_0 w A B C D E)
theorem al6_1 (w : World) (A B C D E F : Obj) : ((((((w.alloc A).alloc B).alloc C).alloc D).alloc E).alloc F).heap[w.heap.size + 1]? = some B := (heap_alloc_old _ _ (by rw [al5_size]; omega)).trans (al5_1 w A B C D E)
theorem al6_2 (w : World) (A B C D E F : Obj) : ((((((w.alloc A).alloc B).alloc C).alloc D).alloc E).alloc F).heap[w.heap.size + 1 + 1]? = some C := (heap_alloc_old _ _ (by rw [al5_size]; omega)).trans (al5_2 w A B C D E)
theorem al6_3 (w : World) (A B C D E F : Obj) : ((((((w.alloc A).alloc B).alloc C).alloc D).alloc E).alloc F).heap[w.heap.size + 1 + 1 + 1]? = some D := (heap_alloc_old _ _ (by rw [al5_size]; omega)).trans (al5_3 w A B C D E)
theorem al6_4 (w : World) (A B C D E F : Obj) : ((((((w.alloc A).alloc B).alloc C).alloc D).alloc E).alloc F).heap[w.heap.size + 1 + 1 + 1 + 1]? = some E := (heap_alloc_old _ _ (by rw [al5_size]; omega)).trans (al5_4 w A B C D E)
theorem al6_5 (w : World) (A B C D E F : Obj) : ((((((w.alloc A).alloc B).alloc C).alloc D).alloc E).alloc F).heap[w.heap.size + 1 + 1 + 1 + 1 + 1]? = some F := by have h := heap_alloc_new (((((w.alloc A).alloc B).alloc C).alloc D).alloc E) F; rw [al5_size] at h; exact h
theorem al6_below (w : World) (A B C D E F : Obj) : Below w.heap.size w ((((((w.alloc A).alloc B).alloc C).alloc D).alloc E).alloc F) := (al5_below w A B C D E).alloc (by rw [al5_size]; omega) _

theorem keep222 {B : Nat} {W u : World} {b0 b1 b2 : Nat} {t0 t1 t2 : TypeId} {x0_0 x0_1 x1_0 x1_1 x2_0 x2_1 : Value} (h0 : W.heap[b0]? = some (.cells #[x0_0, x0_1] t0 (0, 0))) (l0 : b0 < B) (h1 : W.heap[b1]? = some (.cells #[x1_0, x1_1] t1 (0, 0))) (l1 : b1 < B) (h2 : W.heap[b2]? = some (.cells #[x2_0, x2_1] t2 (0, 0))) (l2 : b2 < B) (h : Below B W u) :
    u.cell? ⟨b0, 0, none⟩ = some x0_0 ∧ u.cell? ⟨b0, 1, none⟩ = some x0_1 ∧ u.cell? ⟨b1, 0, none⟩ = some x1_0 ∧ u.cell? ⟨b1, 1, none⟩ = some x1_1 ∧ u.cell? ⟨b2, 0, none⟩ = some x2_0 ∧ u.cell? ⟨b2, 1, none⟩ = some x2_1 ∧ Below B W u := by
  have e0 := (h.block b0 l0).trans h0
  have e1 := (h.block b1 l1).trans h1
  have e2 := (h.block b2 l2).trans h2
  exact ⟨cell_of_row _ _ _ _ _ _ e0, cell_of_row _ _ _ _ _ _ e0, cell_of_row _ _ _ _ _ _ e1, cell_of_row _ _ _ _ _ _ e1, cell_of_row _ _ _ _ _ _ e2, cell_of_row _ _ _ _ _ _ e2, h⟩

theorem keep2222 {B : Nat} {W u : World} {b0 b1 b2 b3 : Nat} {t0 t1 t2 t3 : TypeId} {x0_0 x0_1 x1_0 x1_1 x2_0 x2_1 x3_0 x3_1 : Value} (h0 : W.heap[b0]? = some (.cells #[x0_0, x0_1] t0 (0, 0))) (l0 : b0 < B) (h1 : W.heap[b1]? = some (.cells #[x1_0, x1_1] t1 (0, 0))) (l1 : b1 < B) (h2 : W.heap[b2]? = some (.cells #[x2_0, x2_1] t2 (0, 0))) (l2 : b2 < B) (h3 : W.heap[b3]? = some (.cells #[x3_0, x3_1] t3 (0, 0))) (l3 : b3 < B) (h : Below B W u) :
    u.cell? ⟨b0, 0, none⟩ = some x0_0 ∧ u.cell? ⟨b0, 1, none⟩ = some x0_1 ∧ u.cell? ⟨b1, 0, none⟩ = some x1_0 ∧ u.cell? ⟨b1, 1, none⟩ = some x1_1 ∧ u.cell? ⟨b2, 0, none⟩ = some x2_0 ∧ u.cell? ⟨b2, 1, none⟩ = some x2_1 ∧ u.cell? ⟨b3, 0, none⟩ = some x3_0 ∧ u.cell? ⟨b3, 1, none⟩ = some x3_1 ∧ Below B W u := by
  have e0 := (h.block b0 l0).trans h0
  have e1 := (h.block b1 l1).trans h1
  have e2 := (h.block b2 l2).trans h2
  have e3 := (h.block b3 l3).trans h3
  exact ⟨cell_of_row _ _ _ _ _ _ e0, cell_of_row _ _ _ _ _ _ e0, cell_of_row _ _ _ _ _ _ e1, cell_of_row _ _ _ _ _ _ e1, cell_of_row _ _ _ _ _ _ e2, cell_of_row _ _ _ _ _ _ e2, cell_of_row _ _ _ _ _ _ e3, cell_of_row _ _ _ _ _ _ e3, h⟩

end Go.Proofs.YtdbphpekhmlmdabGreat
