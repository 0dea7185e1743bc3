/-
  The specification's blends.
-/
import Derived.Test.YthelfgippiimiabBlendP
import Derived.Test.YthelfgippiimiabPaintS
namespace Go.Proofs.Ythelfgippiimiab
open Go.RowKit
set_option linter.unusedVariables false

set_option maxHeartbeats 4000000 in
set_option maxRecDepth 100000 in
theorem specLaidOk_any (r g b a : Int) (w : World) :
    Calls Try.prog 51 #[.agg #[.int .i64 r, .int .i64 g, .int .i64 b, .int .i64 a]] w fun e w' => e = .returned (.bool (laidOkB ⟨r, g, b, a⟩)) ∧ Below w.heap.size w w' := by
  have E := hide (specColorOk_any r g b a)
  have H : Hid ((colorOkB ⟨r, g, b, a⟩ && (decide (r ≤ a) && (decide (g ≤ a) && decide (b ≤ a)))) = laidOkB ⟨r, g, b, a⟩) := rfl
  generalize colorOkB ⟨r, g, b, a⟩ = X at E H
  generalize laidOkB ⟨r, g, b, a⟩ = Y at H ⊢
  go_enter Try.func51, Try.ntmps51
  go_upto_region 1 with fail
  have R := hide (new_row w (.cells #[.int .i64 r, .int .i64 g, .int .i64 b, .int .i64 a] 37))
  have HB := hide (al1_below w (.cells #[.int .i64 r, .int .i64 g, .int .i64 b, .int .i64 a] 37))
  generalize w.alloc (.cells #[.int .i64 r, .int .i64 g, .int .i64 b, .int .i64 a] 37) = W at R HB ⊢
  generalize w.heap.size = b1 at R ⊢
  obtain ⟨q0, q1, q2, q3⟩ := row4 (unhide R)
  go_wp2_with fail
  go_fit (unhide E _)
  rintro e u2 ⟨rfl, hb⟩
  replace R := hide (row_next hb (unhide R))
  replace HB := hide (below_two (unhide HB) hb)
  clear hb q0 q1 q2 q3
  obtain ⟨q0, q1, q2, q3⟩ := row4 (unhide R)
  cases X with
  | false =>
    go_wp2_with fail
    go_ret
    exact ⟨ret_bool (unhide H), unhide HB⟩
  | true =>
  cases d0 : decide (r ≤ a) with
  | false =>
    rw [d0] at H
    go_wp2_with fail
    go_ret
    exact ⟨ret_bool (unhide H), unhide HB⟩
  | true =>
  rw [d0] at H
  cases d1 : decide (g ≤ a) with
  | false =>
    rw [d1] at H
    go_wp2_with fail
    go_ret
    exact ⟨ret_bool (unhide H), unhide HB⟩
  | true =>
  rw [d1] at H
  cases d2 : decide (b ≤ a) with
  | false =>
    rw [d2] at H
    go_wp2_with fail
    go_ret
    exact ⟨ret_bool (unhide H), unhide HB⟩
  | true =>
    rw [d2] at H
    go_wp2_with fail
    go_ret
    exact ⟨ret_bool (unhide H), unhide HB⟩

set_option maxHeartbeats 8000000 in
set_option maxRecDepth 100000 in
theorem specFade_any (r g b a n : Int) (w : World) :
    Calls Try.prog 62 #[.agg #[.int .i64 r, .int .i64 g, .int .i64 b, .int .i64 a], .int .i64 n] w fun e w' => e = .returned (.agg #[.int .i64 ((fadeC ⟨r, g, b, a⟩ n).x0), .int .i64 ((fadeC ⟨r, g, b, a⟩ n).y0), .int .i64 ((fadeC ⟨r, g, b, a⟩ n).x1), .int .i64 ((fadeC ⟨r, g, b, a⟩ n).y1)]) ∧ Below w.heap.size w w' := by
  have E := hide (specLaidOk_any r g b a)
  have EN := hide (l01In_any n 0 255)
  have hH : Hid (fadeC ⟨r, g, b, a⟩ n = if laidOkB ⟨r, g, b, a⟩ = true ∧ inB n 0 255 = true then ⟨t255I r n, t255I g n, t255I b n, t255I a n⟩ else ⟨0, 0, 0, 0⟩) := rfl
  have hok : Hid (laidOkB ⟨r, g, b, a⟩ = true → ((0 ≤ r ∧ r ≤ 255) ∧ (0 ≤ g ∧ g ≤ 255) ∧ (0 ≤ b ∧ b ≤ 255) ∧ (0 ≤ a ∧ a ≤ 255))) := fun h => by
    have h1 := laidOk_iff.1 h
    dsimp only at h1
    omega
  have hin : Hid (inB n 0 255 = true → (0 ≤ n ∧ n ≤ 255)) := fun h => inB_true.1 h
  generalize laidOkB ⟨r, g, b, a⟩ = X at E hH hok
  generalize inB n 0 255 = Y at EN hH hin
  generalize fadeC ⟨r, g, b, a⟩ n = C at hH ⊢
  go_enter Try.func62, Try.ntmps62
  go_upto_region 1 with fail
  have R1 := hide (al2_0 w (.cells #[.int .i64 r, .int .i64 g, .int .i64 b, .int .i64 a] 37) (.cells #[.int .i64 0, .int .i64 0, .int .i64 0, .int .i64 0] 37))
  have R2 := hide (al2_1 w (.cells #[.int .i64 r, .int .i64 g, .int .i64 b, .int .i64 a] 37) (.cells #[.int .i64 0, .int .i64 0, .int .i64 0, .int .i64 0] 37))
  have HB := hide (al2_below w (.cells #[.int .i64 r, .int .i64 g, .int .i64 b, .int .i64 a] 37) (.cells #[.int .i64 0, .int .i64 0, .int .i64 0, .int .i64 0] 37))
  obtain ⟨b2, hb2⟩ : ∃ b, Hid (b = w.heap.size + 1) := ⟨_, rfl⟩
  obtain ⟨b1, hb1⟩ : ∃ b, Hid (b = w.heap.size) := ⟨_, rfl⟩
  have lz : Hid (w.heap.size ≤ b2 ∧ b1 < b2) := by unfold Hid; rw [unhide hb2, unhide hb1]; omega
  rw [← unhide hb2] at R2
  rw [← unhide hb1] at R1
  rw [← unhide hb2, ← unhide hb1]
  generalize (w.alloc (.cells #[.int .i64 r, .int .i64 g, .int .i64 b, .int .i64 a] 37)).alloc (.cells #[.int .i64 0, .int .i64 0, .int .i64 0, .int .i64 0] 37) = W at R1 R2 HB ⊢
  clear hb2 hb1
  obtain ⟨q0, q1, q2, q3⟩ := row4 (unhide R1)
  go_wp2_with fail
  go_fit (unhide E _)
  rintro e w1 ⟨rfl, hb⟩
  replace R1 := hide (row_next hb (unhide R1))
  replace R2 := hide (row_next hb (unhide R2))
  replace HB := hide (below_two (unhide HB) hb)
  clear hb q0 q1 q2 q3
  obtain ⟨q0, q1, q2, q3⟩ := row4 (unhide R1)
  obtain ⟨e0, e1, e2, e3⟩ := row4 (unhide R2)
  obtain ⟨f0, f1, f2, f3⟩ := free4 (unhide R2)
  cases X with
  | false =>
    have hC := hide (show C = ⟨0, 0, 0, 0⟩ by rw [unhide hH]; exact if_neg (fun e => absurd e.1 (by decide)))
    go_wp2_with fail
    refine bodyPost_ret (v := .agg #[.int .i64 0, .int .i64 0, .int .i64 0, .int .i64 0]) (by simp [results, Try.results62, go_sem, e0, e1, e2, e3]) rfl ⟨by rw [unhide hC], ?_⟩
    exact below_put4 (unhide HB) (unhide lz).1 _ _ _ _
  | true =>
  go_wp2_with fail
  go_fit (unhide EN _)
  rintro e u2 ⟨rfl, rfl⟩
  cases Y with
  | false =>
    have hC := hide (show C = ⟨0, 0, 0, 0⟩ by rw [unhide hH]; exact if_neg (fun e => absurd e.2 (by decide)))
    go_wp2_with fail
    refine bodyPost_ret (v := .agg #[.int .i64 0, .int .i64 0, .int .i64 0, .int .i64 0]) (by simp [results, Try.results62, go_sem, e0, e1, e2, e3]) rfl ⟨by rw [unhide hC], ?_⟩
    exact below_put4 (unhide HB) (unhide lz).1 _ _ _ _
  | true =>
    have hC := hide (show C = ⟨t255I r n, t255I g n, t255I b n, t255I a n⟩ by rw [unhide hH]; exact if_pos ⟨by trivial, by trivial⟩)
    obtain ⟨p0, p1, p2, p3⟩ := unhide hok (by trivial)
    have pn := unhide hin (by trivial)
    skip
    have K0 := hide (specTimes255_any r n)
    have K1 := hide (specTimes255_any g n)
    have K2 := hide (specTimes255_any b n)
    have K3 := hide (specTimes255_any a n)
    generalize t255I r n = o0 at K0 hC
    generalize t255I g n = o1 at K1 hC
    generalize t255I b n = o2 at K2 hC
    generalize t255I a n = o3 at K3 hC
    clear p0 p1 p2 p3 pn hok hin hH E EN
    have ne1 : ¬ b2 = b1 := by have := unhide lz; omega
    have ne2 : ¬ b1 = b2 := by have := unhide lz; omega
    go_upto_region 3 with fail
    go_region_held3 (fun u => u.cell? ⟨b1, 0, none⟩ = some (.int .i64 r) ∧ u.cell? ⟨b1, 1, none⟩ = some (.int .i64 g) ∧ u.cell? ⟨b1, 2, none⟩ = some (.int .i64 b) ∧ u.cell? ⟨b1, 3, none⟩ = some (.int .i64 a)) (go_keep) (first | (go_at_call 81; (first | go_fit (unhide K0 _) | go_fit (unhide K1 _) | go_fit (unhide K2 _) | go_fit (unhide K3 _)); rintro e w4 ⟨rfl, rfl⟩))
    all_goals
      go_wp2_with fail
      refine bodyPost_ret (v := .agg #[.int .i64 o0, .int .i64 o1, .int .i64 o2, .int .i64 o3]) (by simp [results, Try.results62, go_sem, e0, e1, e2, e3]) rfl ⟨by rw [unhide hC], ?_⟩
      exact below_put4 (below_drews (unhide HB) 1) (unhide lz).1 _ _ _ _

/-- The bounds of what a part reckons. -/
theorem part_bds {s d sa da : Int} (hs : 0 ≤ s ∧ s ≤ 255) (hd : 0 ≤ d ∧ d ≤ 255) (ha : 0 ≤ sa ∧ sa ≤ 255) (hb : 0 ≤ da ∧ da ≤ 255) : (0 ≤ s * d ∧ s * d ≤ 65025) ∧ (0 ≤ s * (255 - da) ∧ s * (255 - da) ≤ 65025) ∧ (0 ≤ d * (255 - sa) ∧ d * (255 - sa) ≤ 65025) :=
  ⟨⟨Int.mul_nonneg hs.1 hd.1, Int.mul_le_mul hs.2 hd.2 hd.1 (by decide)⟩, ⟨Int.mul_nonneg hs.1 (by omega), Int.mul_le_mul hs.2 (show 255 - da ≤ 255 by omega) (by omega) (by decide)⟩, ⟨Int.mul_nonneg hd.1 (by omega), Int.mul_le_mul hd.2 (show 255 - sa ≤ 255 by omega) (by omega) (by decide)⟩⟩

set_option maxHeartbeats 4000000 in
set_option maxRecDepth 100000 in
theorem specPart13_any (m s d sa da : Int) (hs : 0 ≤ s ∧ s ≤ 255) (hd : 0 ≤ d ∧ d ≤ 255) (ha : 0 ≤ sa ∧ sa ≤ 255) (hb : 0 ≤ da ∧ da ≤ 255) (w : World) :
    Calls Try.prog 52 #[.int .i64 m, .int .i64 s, .int .i64 d, .int .i64 sa, .int .i64 da] w fun e w' => e = .returned (.int .i64 (blendI m s d sa da)) ∧ w' = w := by
  obtain ⟨z0, z1, z2⟩ := part_bds hs hd ha hb
  have v0 : IntKind.i64.wrap (255 - sa) = 255 - sa := IntWalk.i64_in _ (by omega)
  have v1 : IntKind.i64.wrap (255 - da) = 255 - da := IntWalk.i64_in _ (by omega)
  have v2 : IntKind.i64.wrap (s * d) = s * d := IntWalk.i64_in _ (by omega)
  have v3 : IntKind.i64.wrap (s * (255 - da)) = s * (255 - da) := IntWalk.i64_in _ (by omega)
  have v4 : IntKind.i64.wrap (d * (255 - sa)) = d * (255 - sa) := IntWalk.i64_in _ (by omega)
  have v5 : IntKind.i64.wrap (s * d + s * (255 - da)) = s * d + s * (255 - da) := IntWalk.i64_in _ (by omega)
  have v6 : IntKind.i64.wrap (s * d + s * (255 - da) + d * (255 - sa)) = s * d + s * (255 - da) + d * (255 - sa) := IntWalk.i64_in _ (by omega)
  have v7 : IntKind.i64.wrap (s + d) = s + d := IntWalk.i64_in _ (by omega)
  have K1 := hide (specTimes255_any d (255 - sa))
  have K2 := hide (specRoundDiv_any (s * d + s * (255 - da) + d * (255 - sa)) 255 (by omega) (by omega) (by omega))
  have K3 := hide (specRoundDiv_any (s * d) 255 (by omega) (by omega) (by omega))
  have t1 := t255_bd d (b := 255 - sa) (by omega)
  have t3 : 0 ≤ rdivI (s * d) 255 ∧ rdivI (s * d) 255 ≤ 255 := ⟨rdiv_pos (by omega) z0.1, rdiv_le (by omega) (by omega)⟩
  have hH : Hid (blendI m s d sa da = capI (if m = 1 then s + t255I d (255 - sa) else if m = 2 then rdivI (s * d + s * (255 - da) + d * (255 - sa)) 255 else if m = 3 then s + d - rdivI (s * d) 255 else if m = 4 then s + d else if m = 5 then t255I d (255 - sa) else d)) := rfl
  generalize blendI m s d sa da = Z at hH ⊢
  generalize t255I d (255 - sa) = T1 at K1 t1 hH
  generalize rdivI (s * d) 255 = T3 at K3 t3 hH
  generalize rdivI (s * d + s * (255 - da) + d * (255 - sa)) 255 = T2 at K2 hH
  have v8 : IntKind.i64.wrap (s + T1) = s + T1 := IntWalk.i64_in _ (by omega)
  have v9 : IntKind.i64.wrap (s + d - T3) = s + d - T3 := IntWalk.i64_in _ (by omega)
  clear z0 z1 z2 t1 t3 hs hd ha hb
  go_enter Try.func52, Try.ntmps52
  by_cases h1 : m = 1
  · subst h1
    have hV := hide (show Z = capI (s + T1) by rw [unhide hH]; first | rfl | decide)
    go_wp2_with fail
    go_fit (unhide K1 _)
    rintro e w1 ⟨rfl, rfl⟩
    cases hc : decide (255 < s + T1) with
    | true =>
      go_wp2_with fail
      go_ret
      exact ⟨by rw [unhide hV]; unfold capI; rw [if_pos (of_decide_eq_true hc)]; rfl, rfl⟩
    | false =>
      go_wp2_with fail
      go_ret
      exact ⟨by rw [unhide hV]; unfold capI; rw [if_neg (of_decide_eq_false hc)]; rfl, rfl⟩
  have e1 : (m == 1) = false := beq_eq_false_iff_ne.2 h1
  by_cases h2 : m = 2
  · subst h2
    have hV := hide (show Z = capI (T2) by rw [unhide hH]; first | rfl | decide)
    go_wp2_with fail
    go_fit (unhide K2 _)
    rintro e w1 ⟨rfl, rfl⟩
    cases hc : decide (255 < T2) with
    | true =>
      go_wp2_with fail
      go_ret
      exact ⟨by rw [unhide hV]; unfold capI; rw [if_pos (of_decide_eq_true hc)]; rfl, rfl⟩
    | false =>
      go_wp2_with fail
      go_ret
      exact ⟨by rw [unhide hV]; unfold capI; rw [if_neg (of_decide_eq_false hc)]; rfl, rfl⟩
  have e2 : (m == 2) = false := beq_eq_false_iff_ne.2 h2
  by_cases h3 : m = 3
  · subst h3
    have hV := hide (show Z = capI (s + d - T3) by rw [unhide hH]; first | rfl | decide)
    go_wp2_with fail
    go_fit (unhide K3 _)
    rintro e w1 ⟨rfl, rfl⟩
    cases hc : decide (255 < s + d - T3) with
    | true =>
      go_wp2_with fail
      go_ret
      exact ⟨by rw [unhide hV]; unfold capI; rw [if_pos (of_decide_eq_true hc)]; rfl, rfl⟩
    | false =>
      go_wp2_with fail
      go_ret
      exact ⟨by rw [unhide hV]; unfold capI; rw [if_neg (of_decide_eq_false hc)]; rfl, rfl⟩
  have e3 : (m == 3) = false := beq_eq_false_iff_ne.2 h3
  by_cases h4 : m = 4
  · subst h4
    have hV := hide (show Z = capI (s + d) by rw [unhide hH]; first | rfl | decide)
    cases hc : decide (255 < s + d) with
    | true =>
      go_wp2_with fail
      go_ret
      exact ⟨by rw [unhide hV]; unfold capI; rw [if_pos (of_decide_eq_true hc)]; rfl, rfl⟩
    | false =>
      go_wp2_with fail
      go_ret
      exact ⟨by rw [unhide hV]; unfold capI; rw [if_neg (of_decide_eq_false hc)]; rfl, rfl⟩
  have e4 : (m == 4) = false := beq_eq_false_iff_ne.2 h4
  by_cases h5 : m = 5
  · subst h5
    have hV := hide (show Z = capI (T1) by rw [unhide hH]; first | rfl | decide)
    go_wp2_with fail
    go_fit (unhide K1 _)
    rintro e w1 ⟨rfl, rfl⟩
    cases hc : decide (255 < T1) with
    | true =>
      go_wp2_with fail
      go_ret
      exact ⟨by rw [unhide hV]; unfold capI; rw [if_pos (of_decide_eq_true hc)]; rfl, rfl⟩
    | false =>
      go_wp2_with fail
      go_ret
      exact ⟨by rw [unhide hV]; unfold capI; rw [if_neg (of_decide_eq_false hc)]; rfl, rfl⟩
  have e5 : (m == 5) = false := beq_eq_false_iff_ne.2 h5
  have hV := hide (show Z = capI d by rw [unhide hH, if_neg h1, if_neg h2, if_neg h3, if_neg h4, if_neg h5])
  cases hc : decide (255 < d) with
  | true =>
    go_wp2_with fail
    go_ret
    exact ⟨by rw [unhide hV]; unfold capI; rw [if_pos (of_decide_eq_true hc)]; rfl, rfl⟩
  | false =>
    go_wp2_with fail
    go_ret
    exact ⟨by rw [unhide hV]; unfold capI; rw [if_neg (of_decide_eq_false hc)]; rfl, rfl⟩

set_option maxHeartbeats 16000000 in
set_option maxRecDepth 100000 in
theorem specBlend_any (m r g b a r2 g2 b2 a2 : Int) (w : World) :
    Calls Try.prog 18 #[.int .i64 m, .agg #[.int .i64 r, .int .i64 g, .int .i64 b, .int .i64 a], .agg #[.int .i64 r2, .int .i64 g2, .int .i64 b2, .int .i64 a2]] w fun e w' => e = .returned (.agg #[.int .i64 ((blendC m ⟨r, g, b, a⟩ ⟨r2, g2, b2, a2⟩).x0), .int .i64 ((blendC m ⟨r, g, b, a⟩ ⟨r2, g2, b2, a2⟩).y0), .int .i64 ((blendC m ⟨r, g, b, a⟩ ⟨r2, g2, b2, a2⟩).x1), .int .i64 ((blendC m ⟨r, g, b, a⟩ ⟨r2, g2, b2, a2⟩).y1)]) ∧ Below w.heap.size w w' := by
  have E := hide (specLaidOk_any r g b a)
  have E2 := hide (specLaidOk_any r2 g2 b2 a2)
  have hH : Hid (blendC m ⟨r, g, b, a⟩ ⟨r2, g2, b2, a2⟩ = if laidOkB ⟨r, g, b, a⟩ = true ∧ laidOkB ⟨r2, g2, b2, a2⟩ = true then ⟨blendI m r r2 a a2, blendI m g g2 a a2, blendI m b b2 a a2, blendI m a a2 a a2⟩ else ⟨r2, g2, b2, a2⟩) := rfl
  have hok : Hid (∀ (r g b a : Int), laidOkB ⟨r, g, b, a⟩ = true → ((0 ≤ r ∧ r ≤ 255) ∧ (0 ≤ g ∧ g ≤ 255) ∧ (0 ≤ b ∧ b ≤ 255) ∧ (0 ≤ a ∧ a ≤ 255))) := fun r g b a h => by
    have h1 := laidOk_iff.1 h
    dsimp only at h1
    omega
  have ok1 := hide (unhide hok r g b a)
  have ok2 := hide (unhide hok r2 g2 b2 a2)
  clear hok
  generalize laidOkB ⟨r, g, b, a⟩ = X at E hH ok1
  generalize laidOkB ⟨r2, g2, b2, a2⟩ = Y at E2 hH ok2
  generalize blendC m ⟨r, g, b, a⟩ ⟨r2, g2, b2, a2⟩ = C at hH ⊢
  go_enter Try.func18, Try.ntmps18
  go_upto_region 1 with fail
  have R1 := hide (al3_0 w (.cells #[.int .i64 r, .int .i64 g, .int .i64 b, .int .i64 a] 37) (.cells #[.int .i64 r2, .int .i64 g2, .int .i64 b2, .int .i64 a2] 37) (.cells #[.int .i64 0, .int .i64 0, .int .i64 0, .int .i64 0] 37))
  have R2 := hide (al3_1 w (.cells #[.int .i64 r, .int .i64 g, .int .i64 b, .int .i64 a] 37) (.cells #[.int .i64 r2, .int .i64 g2, .int .i64 b2, .int .i64 a2] 37) (.cells #[.int .i64 0, .int .i64 0, .int .i64 0, .int .i64 0] 37))
  have R3 := hide (al3_2 w (.cells #[.int .i64 r, .int .i64 g, .int .i64 b, .int .i64 a] 37) (.cells #[.int .i64 r2, .int .i64 g2, .int .i64 b2, .int .i64 a2] 37) (.cells #[.int .i64 0, .int .i64 0, .int .i64 0, .int .i64 0] 37))
  have HB := hide (al3_below w (.cells #[.int .i64 r, .int .i64 g, .int .i64 b, .int .i64 a] 37) (.cells #[.int .i64 r2, .int .i64 g2, .int .i64 b2, .int .i64 a2] 37) (.cells #[.int .i64 0, .int .i64 0, .int .i64 0, .int .i64 0] 37))
  obtain ⟨b3, hb3⟩ : ∃ b, Hid (b = w.heap.size + 1 + 1) := ⟨_, rfl⟩
  obtain ⟨b2', hb2⟩ : ∃ b, Hid (b = w.heap.size + 1) := ⟨_, rfl⟩
  obtain ⟨b1, hb1⟩ : ∃ b, Hid (b = w.heap.size) := ⟨_, rfl⟩
  have lz : Hid (w.heap.size ≤ b3 ∧ b1 < b3 ∧ b2' < b3) := by unfold Hid; rw [unhide hb3, unhide hb2, unhide hb1]; omega
  rw [← unhide hb3] at R3
  rw [← unhide hb2] at R2
  rw [← unhide hb1] at R1
  rw [← unhide hb3, ← unhide hb2, ← unhide hb1]
  generalize (((w.alloc (.cells #[.int .i64 r, .int .i64 g, .int .i64 b, .int .i64 a] 37)).alloc (.cells #[.int .i64 r2, .int .i64 g2, .int .i64 b2, .int .i64 a2] 37)).alloc (.cells #[.int .i64 0, .int .i64 0, .int .i64 0, .int .i64 0] 37)) = W at R1 R2 R3 HB ⊢
  clear hb3 hb2 hb1
  obtain ⟨q0, q1, q2, q3⟩ := row4 (unhide R1)
  go_wp2_with fail
  go_fit (unhide E _)
  rintro e w1 ⟨rfl, hb⟩
  replace R1 := hide (row_next hb (unhide R1))
  replace R2 := hide (row_next hb (unhide R2))
  replace R3 := hide (row_next hb (unhide R3))
  replace HB := hide (below_two (unhide HB) hb)
  clear hb q0 q1 q2 q3
  obtain ⟨p0, p1, p2, p3⟩ := row4 (unhide R2)
  obtain ⟨e0, e1, e2, e3⟩ := row4 (unhide R3)
  obtain ⟨f0, f1, f2, f3⟩ := free4 (unhide R3)
  cases X with
  | false =>
    have hC := hide (show C = ⟨r2, g2, b2, a2⟩ by rw [unhide hH]; exact if_neg (fun e => absurd e.1 (by decide)))
    go_wp2_with fail
    refine bodyPost_ret (v := .agg #[.int .i64 r2, .int .i64 g2, .int .i64 b2, .int .i64 a2]) (by simp [results, Try.results18, go_sem, e0, e1, e2, e3]) rfl ⟨by rw [unhide hC], ?_⟩
    exact below_put4 (unhide HB) (unhide lz).1 _ _ _ _
  | true =>
  go_wp2_with fail
  go_fit (unhide E2 _)
  rintro e w2 ⟨rfl, hb⟩
  replace R1 := hide (row_next hb (unhide R1))
  replace R2 := hide (row_next hb (unhide R2))
  replace R3 := hide (row_next hb (unhide R3))
  replace HB := hide (below_two (unhide HB) hb)
  clear hb p0 p1 p2 p3 e0 e1 e2 e3 f0 f1 f2 f3
  obtain ⟨q0, q1, q2, q3⟩ := row4 (unhide R1)
  obtain ⟨p0, p1, p2, p3⟩ := row4 (unhide R2)
  obtain ⟨e0, e1, e2, e3⟩ := row4 (unhide R3)
  obtain ⟨f0, f1, f2, f3⟩ := free4 (unhide R3)
  cases Y with
  | false =>
    have hC := hide (show C = ⟨r2, g2, b2, a2⟩ by rw [unhide hH]; exact if_neg (fun e => absurd e.2 (by decide)))
    go_wp2_with fail
    refine bodyPost_ret (v := .agg #[.int .i64 r2, .int .i64 g2, .int .i64 b2, .int .i64 a2]) (by simp [results, Try.results18, go_sem, e0, e1, e2, e3]) rfl ⟨by rw [unhide hC], ?_⟩
    exact below_put4 (unhide HB) (unhide lz).1 _ _ _ _
  | true =>
    have hC := hide (show C = ⟨blendI m r r2 a a2, blendI m g g2 a a2, blendI m b b2 a a2, blendI m a a2 a a2⟩ by rw [unhide hH]; exact if_pos ⟨by trivial, by trivial⟩)
    obtain ⟨g0, g1, g2', g3⟩ := unhide ok1 (by trivial)
    obtain ⟨h0, h1, h2, h3⟩ := unhide ok2 (by trivial)
    have K0 := hide (specPart13_any m r r2 a a2 g0 h0 g3 h3)
    have K1 := hide (specPart13_any m g g2 a a2 g1 h1 g3 h3)
    have K2 := hide (specPart13_any m b b2 a a2 g2' h2 g3 h3)
    have K3 := hide (specPart13_any m a a2 a a2 g3 h3 g3 h3)
    generalize blendI m r r2 a a2 = o0 at K0 hC
    generalize blendI m g g2 a a2 = o1 at K1 hC
    generalize blendI m b b2 a a2 = o2 at K2 hC
    generalize blendI m a a2 a a2 = o3 at K3 hC
    clear g0 g1 g2' g3 h0 h1 h2 h3 ok1 ok2 hH E E2
    have ne1 : ¬ b3 = b1 := by have := unhide lz; omega
    have ne2 : ¬ b1 = b3 := by have := unhide lz; omega
    have ne3 : ¬ b3 = b2' := by have := unhide lz; omega
    have ne4 : ¬ b2' = b3 := by have := unhide lz; omega
    go_upto_region 3 with fail
    go_region_held3 (fun u => u.cell? ⟨b1, 0, none⟩ = some (.int .i64 r) ∧ u.cell? ⟨b1, 1, none⟩ = some (.int .i64 g) ∧ u.cell? ⟨b1, 2, none⟩ = some (.int .i64 b) ∧ u.cell? ⟨b1, 3, none⟩ = some (.int .i64 a) ∧ u.cell? ⟨b2', 0, none⟩ = some (.int .i64 r2) ∧ u.cell? ⟨b2', 1, none⟩ = some (.int .i64 g2) ∧ u.cell? ⟨b2', 2, none⟩ = some (.int .i64 b2) ∧ u.cell? ⟨b2', 3, none⟩ = some (.int .i64 a2)) (go_keep) (first | (go_at_call 52; (first | go_fit (unhide K0 _) | go_fit (unhide K1 _) | go_fit (unhide K2 _) | go_fit (unhide K3 _)); rintro e w4 ⟨rfl, rfl⟩))
    all_goals
      go_wp2_with fail
      refine bodyPost_ret (v := .agg #[.int .i64 o0, .int .i64 o1, .int .i64 o2, .int .i64 o3]) (by simp [results, Try.results18, go_sem, e0, e1, e2, e3]) rfl ⟨by rw [unhide hC], ?_⟩
      exact below_put4 (below_drews (unhide HB) 1) (unhide lz).1 _ _ _ _
end Go.Proofs.Ythelfgippiimiab
