/-
  BlendS · SurfS · SurfC · PaintU · SurfM · SurfV · DrawSu · SurfY: texts of one claim, in one.
-/
import Derived.Test.YthelfgippiimiacFnLayersM5
import Derived.Test.YthelfgippiimiacFnLayersM2
import Derived.Laws.AppendOwnNone
import Derived.Deep.RegionLaw
import Derived.Test.YthelfgippiimiacFnLayersM4

/-
  The specification's blends.
-/
namespace Go.Proofs.Ythelfgippiimiac
open Go.RowKit
set_option linter.unusedVariables false

set_option maxHeartbeats 4000000 in
set_option maxRecDepth 100000 in
theorem specLaidOk_any (r g b a : Int) (w : World) :
    Calls Try.prog 45 #[.agg #[.int .i64 r, .int .i64 g, .int .i64 b, .int .i64 a]] w fun e w' => e = .returned (.bool (laidOkB ⟨r, g, b, a⟩)) ∧ Below w.heap.size w w' := by
  have E := hide (specColorOk_any r g b a)
  have H : Hid ((colorOkB ⟨r, g, b, a⟩ && (decide (r ≤ a) && (decide (g ≤ a) && decide (b ≤ a)))) = laidOkB ⟨r, g, b, a⟩) := rfl
  generalize colorOkB ⟨r, g, b, a⟩ = X at E H
  generalize laidOkB ⟨r, g, b, a⟩ = Y at H ⊢
  go_enter Try.func45, Try.ntmps45
  go_upto_region 1 with fail
  have R := hide (new_row w (.cells #[.int .i64 r, .int .i64 g, .int .i64 b, .int .i64 a] 42))
  have HB := hide (al1_below w (.cells #[.int .i64 r, .int .i64 g, .int .i64 b, .int .i64 a] 42))
  generalize w.alloc (.cells #[.int .i64 r, .int .i64 g, .int .i64 b, .int .i64 a] 42) = W at R HB ⊢
  generalize w.heap.size = b1 at R ⊢
  obtain ⟨q0, q1, q2, q3⟩ := row4 (unhide R)
  go_wp2_with fail
  go_fit (unhide E _)
  rintro e u2 ⟨rfl, hb⟩
  replace R := hide (row_next hb (unhide R))
  replace HB := hide (below_two (unhide HB) hb)
  clear hb q0 q1 q2 q3
  obtain ⟨q0, q1, q2, q3⟩ := row4 (unhide R)
  cases X with
  | false =>
    go_wp2_with fail
    go_ret
    exact ⟨ret_bool (unhide H), unhide HB⟩
  | true =>
  cases d0 : decide (r ≤ a) with
  | false =>
    rw [d0] at H
    go_wp2_with fail
    go_ret
    exact ⟨ret_bool (unhide H), unhide HB⟩
  | true =>
  rw [d0] at H
  cases d1 : decide (g ≤ a) with
  | false =>
    rw [d1] at H
    go_wp2_with fail
    go_ret
    exact ⟨ret_bool (unhide H), unhide HB⟩
  | true =>
  rw [d1] at H
  cases d2 : decide (b ≤ a) with
  | false =>
    rw [d2] at H
    go_wp2_with fail
    go_ret
    exact ⟨ret_bool (unhide H), unhide HB⟩
  | true =>
    rw [d2] at H
    go_wp2_with fail
    go_ret
    exact ⟨ret_bool (unhide H), unhide HB⟩

set_option maxHeartbeats 8000000 in
set_option maxRecDepth 100000 in
theorem specThin_any (r g b a n : Int) (w : World) :
    Calls Try.prog 51 #[.agg #[.int .i64 r, .int .i64 g, .int .i64 b, .int .i64 a], .int .i64 n] w fun e w' => e = .returned (.agg #[.int .i64 ((thinC ⟨r, g, b, a⟩ n).x0), .int .i64 ((thinC ⟨r, g, b, a⟩ n).y0), .int .i64 ((thinC ⟨r, g, b, a⟩ n).x1), .int .i64 ((thinC ⟨r, g, b, a⟩ n).y1)]) ∧ Below w.heap.size w w' := by
  have E := hide (specLaidOk_any r g b a)
  have EN := hide (l01In_any n 0 4)
  have hH : Hid (thinC ⟨r, g, b, a⟩ n = if laidOkB ⟨r, g, b, a⟩ = true ∧ inB n 0 4 = true then ⟨rdivI (r * n) 4, rdivI (g * n) 4, rdivI (b * n) 4, rdivI (a * n) 4⟩ else ⟨0, 0, 0, 0⟩) := rfl
  have hok : Hid (laidOkB ⟨r, g, b, a⟩ = true → ((0 ≤ r ∧ r ≤ 255) ∧ (0 ≤ g ∧ g ≤ 255) ∧ (0 ≤ b ∧ b ≤ 255) ∧ (0 ≤ a ∧ a ≤ 255))) := fun h => by
    have h1 := laidOk_iff.1 h
    dsimp only at h1
    omega
  have hin : Hid (inB n 0 4 = true → (0 ≤ n ∧ n ≤ 4)) := fun h => inB_true.1 h
  generalize laidOkB ⟨r, g, b, a⟩ = X at E hH hok
  generalize inB n 0 4 = Y at EN hH hin
  generalize thinC ⟨r, g, b, a⟩ n = C at hH ⊢
  go_enter Try.func51, Try.ntmps51
  go_upto_region 1 with fail
  have R1 := hide (al2_0 w (.cells #[.int .i64 r, .int .i64 g, .int .i64 b, .int .i64 a] 42) (.cells #[.int .i64 0, .int .i64 0, .int .i64 0, .int .i64 0] 42))
  have R2 := hide (al2_1 w (.cells #[.int .i64 r, .int .i64 g, .int .i64 b, .int .i64 a] 42) (.cells #[.int .i64 0, .int .i64 0, .int .i64 0, .int .i64 0] 42))
  have HB := hide (al2_below w (.cells #[.int .i64 r, .int .i64 g, .int .i64 b, .int .i64 a] 42) (.cells #[.int .i64 0, .int .i64 0, .int .i64 0, .int .i64 0] 42))
  obtain ⟨b2, hb2⟩ : ∃ b, Hid (b = w.heap.size + 1) := ⟨_, rfl⟩
  obtain ⟨b1, hb1⟩ : ∃ b, Hid (b = w.heap.size) := ⟨_, rfl⟩
  have lz : Hid (w.heap.size ≤ b2 ∧ b1 < b2) := by unfold Hid; rw [unhide hb2, unhide hb1]; omega
  rw [← unhide hb2] at R2
  rw [← unhide hb1] at R1
  rw [← unhide hb2, ← unhide hb1]
  generalize (w.alloc (.cells #[.int .i64 r, .int .i64 g, .int .i64 b, .int .i64 a] 42)).alloc (.cells #[.int .i64 0, .int .i64 0, .int .i64 0, .int .i64 0] 42) = W at R1 R2 HB ⊢
  clear hb2 hb1
  obtain ⟨q0, q1, q2, q3⟩ := row4 (unhide R1)
  go_wp2_with fail
  go_fit (unhide E _)
  rintro e w1 ⟨rfl, hb⟩
  replace R1 := hide (row_next hb (unhide R1))
  replace R2 := hide (row_next hb (unhide R2))
  replace HB := hide (below_two (unhide HB) hb)
  clear hb q0 q1 q2 q3
  obtain ⟨q0, q1, q2, q3⟩ := row4 (unhide R1)
  obtain ⟨e0, e1, e2, e3⟩ := row4 (unhide R2)
  obtain ⟨f0, f1, f2, f3⟩ := free4 (unhide R2)
  cases X with
  | false =>
    have hC := hide (show C = ⟨0, 0, 0, 0⟩ by rw [unhide hH]; exact if_neg (fun e => absurd e.1 (by decide)))
    go_wp2_with fail
    refine bodyPost_ret (v := .agg #[.int .i64 0, .int .i64 0, .int .i64 0, .int .i64 0]) (by simp [results, Try.results51, go_sem, e0, e1, e2, e3]) rfl ⟨by rw [unhide hC], ?_⟩
    exact below_put4 (unhide HB) (unhide lz).1 _ _ _ _
  | true =>
  go_wp2_with fail
  go_fit (unhide EN _)
  rintro e u2 ⟨rfl, rfl⟩
  cases Y with
  | false =>
    have hC := hide (show C = ⟨0, 0, 0, 0⟩ by rw [unhide hH]; exact if_neg (fun e => absurd e.2 (by decide)))
    go_wp2_with fail
    refine bodyPost_ret (v := .agg #[.int .i64 0, .int .i64 0, .int .i64 0, .int .i64 0]) (by simp [results, Try.results51, go_sem, e0, e1, e2, e3]) rfl ⟨by rw [unhide hC], ?_⟩
    exact below_put4 (unhide HB) (unhide lz).1 _ _ _ _
  | true =>
    have hC := hide (show C = ⟨rdivI (r * n) 4, rdivI (g * n) 4, rdivI (b * n) 4, rdivI (a * n) 4⟩ by rw [unhide hH]; exact if_pos ⟨by trivial, by trivial⟩)
    obtain ⟨p0, p1, p2, p3⟩ := unhide hok (by trivial)
    have pn := unhide hin (by trivial)
    have z0 : 0 ≤ r * n ∧ r * n ≤ 255 * 4 := ⟨Int.mul_nonneg p0.1 pn.1, Int.mul_le_mul p0.2 pn.2 pn.1 (by decide)⟩
    have v0 : IntKind.i64.wrap (r * n) = r * n := IntWalk.i64_in _ (by omega)
    have z1 : 0 ≤ g * n ∧ g * n ≤ 255 * 4 := ⟨Int.mul_nonneg p1.1 pn.1, Int.mul_le_mul p1.2 pn.2 pn.1 (by decide)⟩
    have v1 : IntKind.i64.wrap (g * n) = g * n := IntWalk.i64_in _ (by omega)
    have z2 : 0 ≤ b * n ∧ b * n ≤ 255 * 4 := ⟨Int.mul_nonneg p2.1 pn.1, Int.mul_le_mul p2.2 pn.2 pn.1 (by decide)⟩
    have v2 : IntKind.i64.wrap (b * n) = b * n := IntWalk.i64_in _ (by omega)
    have z3 : 0 ≤ a * n ∧ a * n ≤ 255 * 4 := ⟨Int.mul_nonneg p3.1 pn.1, Int.mul_le_mul p3.2 pn.2 pn.1 (by decide)⟩
    have v3 : IntKind.i64.wrap (a * n) = a * n := IntWalk.i64_in _ (by omega)
    have K0 := hide (specRoundDiv_any (r * n) 4 (by omega) (by omega) (by omega))
    have K1 := hide (specRoundDiv_any (g * n) 4 (by omega) (by omega) (by omega))
    have K2 := hide (specRoundDiv_any (b * n) 4 (by omega) (by omega) (by omega))
    have K3 := hide (specRoundDiv_any (a * n) 4 (by omega) (by omega) (by omega))
    generalize rdivI (r * n) 4 = o0 at K0 hC
    generalize rdivI (g * n) 4 = o1 at K1 hC
    generalize rdivI (b * n) 4 = o2 at K2 hC
    generalize rdivI (a * n) 4 = o3 at K3 hC
    clear p0 p1 p2 p3 pn hok hin hH E EN
    have ne1 : ¬ b2 = b1 := by have := unhide lz; omega
    have ne2 : ¬ b1 = b2 := by have := unhide lz; omega
    go_upto_region 3 with fail
    go_region_held3 (fun u => u.cell? ⟨b1, 0, none⟩ = some (.int .i64 r) ∧ u.cell? ⟨b1, 1, none⟩ = some (.int .i64 g) ∧ u.cell? ⟨b1, 2, none⟩ = some (.int .i64 b) ∧ u.cell? ⟨b1, 3, none⟩ = some (.int .i64 a)) (go_keep) (first | (go_at_call 70; (first | go_fit (unhide K0 _) | go_fit (unhide K1 _) | go_fit (unhide K2 _) | go_fit (unhide K3 _)); rintro e w4 ⟨rfl, rfl⟩))
    all_goals
      go_wp2_with fail
      refine bodyPost_ret (v := .agg #[.int .i64 o0, .int .i64 o1, .int .i64 o2, .int .i64 o3]) (by simp [results, Try.results51, go_sem, e0, e1, e2, e3]) rfl ⟨by rw [unhide hC], ?_⟩
      exact below_put4 (below_drews (unhide HB) 1) (unhide lz).1 _ _ _ _

set_option maxHeartbeats 8000000 in
set_option maxRecDepth 100000 in
theorem specFade_any (r g b a n : Int) (w : World) :
    Calls Try.prog 29 #[.agg #[.int .i64 r, .int .i64 g, .int .i64 b, .int .i64 a], .int .i64 n] w fun e w' => e = .returned (.agg #[.int .i64 ((fadeC ⟨r, g, b, a⟩ n).x0), .int .i64 ((fadeC ⟨r, g, b, a⟩ n).y0), .int .i64 ((fadeC ⟨r, g, b, a⟩ n).x1), .int .i64 ((fadeC ⟨r, g, b, a⟩ n).y1)]) ∧ Below w.heap.size w w' := by
  have E := hide (specLaidOk_any r g b a)
  have EN := hide (l01In_any n 0 255)
  have hH : Hid (fadeC ⟨r, g, b, a⟩ n = if laidOkB ⟨r, g, b, a⟩ = true ∧ inB n 0 255 = true then ⟨t255I r n, t255I g n, t255I b n, t255I a n⟩ else ⟨0, 0, 0, 0⟩) := rfl
  have hok : Hid (laidOkB ⟨r, g, b, a⟩ = true → ((0 ≤ r ∧ r ≤ 255) ∧ (0 ≤ g ∧ g ≤ 255) ∧ (0 ≤ b ∧ b ≤ 255) ∧ (0 ≤ a ∧ a ≤ 255))) := fun h => by
    have h1 := laidOk_iff.1 h
    dsimp only at h1
    omega
  have hin : Hid (inB n 0 255 = true → (0 ≤ n ∧ n ≤ 255)) := fun h => inB_true.1 h
  generalize laidOkB ⟨r, g, b, a⟩ = X at E hH hok
  generalize inB n 0 255 = Y at EN hH hin
  generalize fadeC ⟨r, g, b, a⟩ n = C at hH ⊢
  go_enter Try.func29, Try.ntmps29
  go_upto_region 1 with fail
  have R1 := hide (al2_0 w (.cells #[.int .i64 r, .int .i64 g, .int .i64 b, .int .i64 a] 42) (.cells #[.int .i64 0, .int .i64 0, .int .i64 0, .int .i64 0] 42))
  have R2 := hide (al2_1 w (.cells #[.int .i64 r, .int .i64 g, .int .i64 b, .int .i64 a] 42) (.cells #[.int .i64 0, .int .i64 0, .int .i64 0, .int .i64 0] 42))
  have HB := hide (al2_below w (.cells #[.int .i64 r, .int .i64 g, .int .i64 b, .int .i64 a] 42) (.cells #[.int .i64 0, .int .i64 0, .int .i64 0, .int .i64 0] 42))
  obtain ⟨b2, hb2⟩ : ∃ b, Hid (b = w.heap.size + 1) := ⟨_, rfl⟩
  obtain ⟨b1, hb1⟩ : ∃ b, Hid (b = w.heap.size) := ⟨_, rfl⟩
  have lz : Hid (w.heap.size ≤ b2 ∧ b1 < b2) := by unfold Hid; rw [unhide hb2, unhide hb1]; omega
  rw [← unhide hb2] at R2
  rw [← unhide hb1] at R1
  rw [← unhide hb2, ← unhide hb1]
  generalize (w.alloc (.cells #[.int .i64 r, .int .i64 g, .int .i64 b, .int .i64 a] 42)).alloc (.cells #[.int .i64 0, .int .i64 0, .int .i64 0, .int .i64 0] 42) = W at R1 R2 HB ⊢
  clear hb2 hb1
  obtain ⟨q0, q1, q2, q3⟩ := row4 (unhide R1)
  go_wp2_with fail
  go_fit (unhide E _)
  rintro e w1 ⟨rfl, hb⟩
  replace R1 := hide (row_next hb (unhide R1))
  replace R2 := hide (row_next hb (unhide R2))
  replace HB := hide (below_two (unhide HB) hb)
  clear hb q0 q1 q2 q3
  obtain ⟨q0, q1, q2, q3⟩ := row4 (unhide R1)
  obtain ⟨e0, e1, e2, e3⟩ := row4 (unhide R2)
  obtain ⟨f0, f1, f2, f3⟩ := free4 (unhide R2)
  cases X with
  | false =>
    have hC := hide (show C = ⟨0, 0, 0, 0⟩ by rw [unhide hH]; exact if_neg (fun e => absurd e.1 (by decide)))
    go_wp2_with fail
    refine bodyPost_ret (v := .agg #[.int .i64 0, .int .i64 0, .int .i64 0, .int .i64 0]) (by simp [results, Try.results29, go_sem, e0, e1, e2, e3]) rfl ⟨by rw [unhide hC], ?_⟩
    exact below_put4 (unhide HB) (unhide lz).1 _ _ _ _
  | true =>
  go_wp2_with fail
  go_fit (unhide EN _)
  rintro e u2 ⟨rfl, rfl⟩
  cases Y with
  | false =>
    have hC := hide (show C = ⟨0, 0, 0, 0⟩ by rw [unhide hH]; exact if_neg (fun e => absurd e.2 (by decide)))
    go_wp2_with fail
    refine bodyPost_ret (v := .agg #[.int .i64 0, .int .i64 0, .int .i64 0, .int .i64 0]) (by simp [results, Try.results29, go_sem, e0, e1, e2, e3]) rfl ⟨by rw [unhide hC], ?_⟩
    exact below_put4 (unhide HB) (unhide lz).1 _ _ _ _
  | true =>
    have hC := hide (show C = ⟨t255I r n, t255I g n, t255I b n, t255I a n⟩ by rw [unhide hH]; exact if_pos ⟨by trivial, by trivial⟩)
    obtain ⟨p0, p1, p2, p3⟩ := unhide hok (by trivial)
    have pn := unhide hin (by trivial)
    skip
    have K0 := hide (specTimes255_any r n)
    have K1 := hide (specTimes255_any g n)
    have K2 := hide (specTimes255_any b n)
    have K3 := hide (specTimes255_any a n)
    generalize t255I r n = o0 at K0 hC
    generalize t255I g n = o1 at K1 hC
    generalize t255I b n = o2 at K2 hC
    generalize t255I a n = o3 at K3 hC
    clear p0 p1 p2 p3 pn hok hin hH E EN
    have ne1 : ¬ b2 = b1 := by have := unhide lz; omega
    have ne2 : ¬ b1 = b2 := by have := unhide lz; omega
    go_upto_region 3 with fail
    go_region_held3 (fun u => u.cell? ⟨b1, 0, none⟩ = some (.int .i64 r) ∧ u.cell? ⟨b1, 1, none⟩ = some (.int .i64 g) ∧ u.cell? ⟨b1, 2, none⟩ = some (.int .i64 b) ∧ u.cell? ⟨b1, 3, none⟩ = some (.int .i64 a)) (go_keep) (first | (go_at_call 47; (first | go_fit (unhide K0 _) | go_fit (unhide K1 _) | go_fit (unhide K2 _) | go_fit (unhide K3 _)); rintro e w4 ⟨rfl, rfl⟩))
    all_goals
      go_wp2_with fail
      refine bodyPost_ret (v := .agg #[.int .i64 o0, .int .i64 o1, .int .i64 o2, .int .i64 o3]) (by simp [results, Try.results29, go_sem, e0, e1, e2, e3]) rfl ⟨by rw [unhide hC], ?_⟩
      exact below_put4 (below_drews (unhide HB) 1) (unhide lz).1 _ _ _ _

/-- The bounds of what a part reckons. -/
theorem part_bds {s d sa da : Int} (hs : 0 ≤ s ∧ s ≤ 255) (hd : 0 ≤ d ∧ d ≤ 255) (ha : 0 ≤ sa ∧ sa ≤ 255) (hb : 0 ≤ da ∧ da ≤ 255) : (0 ≤ s * d ∧ s * d ≤ 65025) ∧ (0 ≤ s * (255 - da) ∧ s * (255 - da) ≤ 65025) ∧ (0 ≤ d * (255 - sa) ∧ d * (255 - sa) ≤ 65025) :=
  ⟨⟨Int.mul_nonneg hs.1 hd.1, Int.mul_le_mul hs.2 hd.2 hd.1 (by decide)⟩, ⟨Int.mul_nonneg hs.1 (by omega), Int.mul_le_mul hs.2 (show 255 - da ≤ 255 by omega) (by omega) (by decide)⟩, ⟨Int.mul_nonneg hd.1 (by omega), Int.mul_le_mul hd.2 (show 255 - sa ≤ 255 by omega) (by omega) (by decide)⟩⟩

set_option maxHeartbeats 4000000 in
set_option maxRecDepth 100000 in
theorem specPart13_any (m s d sa da : Int) (hs : 0 ≤ s ∧ s ≤ 255) (hd : 0 ≤ d ∧ d ≤ 255) (ha : 0 ≤ sa ∧ sa ≤ 255) (hb : 0 ≤ da ∧ da ≤ 255) (w : World) :
    Calls Try.prog 46 #[.int .i64 m, .int .i64 s, .int .i64 d, .int .i64 sa, .int .i64 da] w fun e w' => e = .returned (.int .i64 (blendI m s d sa da)) ∧ w' = w := by
  obtain ⟨z0, z1, z2⟩ := part_bds hs hd ha hb
  have v0 : IntKind.i64.wrap (255 - sa) = 255 - sa := IntWalk.i64_in _ (by omega)
  have v1 : IntKind.i64.wrap (255 - da) = 255 - da := IntWalk.i64_in _ (by omega)
  have v2 : IntKind.i64.wrap (s * d) = s * d := IntWalk.i64_in _ (by omega)
  have v3 : IntKind.i64.wrap (s * (255 - da)) = s * (255 - da) := IntWalk.i64_in _ (by omega)
  have v4 : IntKind.i64.wrap (d * (255 - sa)) = d * (255 - sa) := IntWalk.i64_in _ (by omega)
  have v5 : IntKind.i64.wrap (s * d + s * (255 - da)) = s * d + s * (255 - da) := IntWalk.i64_in _ (by omega)
  have v6 : IntKind.i64.wrap (s * d + s * (255 - da) + d * (255 - sa)) = s * d + s * (255 - da) + d * (255 - sa) := IntWalk.i64_in _ (by omega)
  have v7 : IntKind.i64.wrap (s + d) = s + d := IntWalk.i64_in _ (by omega)
  have K1 := hide (specTimes255_any d (255 - sa))
  have K2 := hide (specRoundDiv_any (s * d + s * (255 - da) + d * (255 - sa)) 255 (by omega) (by omega) (by omega))
  have K3 := hide (specRoundDiv_any (s * d) 255 (by omega) (by omega) (by omega))
  have t1 := t255_bd d (b := 255 - sa) (by omega)
  have t3 : 0 ≤ rdivI (s * d) 255 ∧ rdivI (s * d) 255 ≤ 255 := ⟨rdiv_pos (by omega) z0.1, rdiv_le (by omega) (by omega)⟩
  have hH : Hid (blendI m s d sa da = capI (if m = 1 then s + t255I d (255 - sa) else if m = 2 then rdivI (s * d + s * (255 - da) + d * (255 - sa)) 255 else if m = 3 then s + d - rdivI (s * d) 255 else if m = 4 then s + d else if m = 5 then t255I d (255 - sa) else d)) := rfl
  generalize blendI m s d sa da = Z at hH ⊢
  generalize t255I d (255 - sa) = T1 at K1 t1 hH
  generalize rdivI (s * d) 255 = T3 at K3 t3 hH
  generalize rdivI (s * d + s * (255 - da) + d * (255 - sa)) 255 = T2 at K2 hH
  have v8 : IntKind.i64.wrap (s + T1) = s + T1 := IntWalk.i64_in _ (by omega)
  have v9 : IntKind.i64.wrap (s + d - T3) = s + d - T3 := IntWalk.i64_in _ (by omega)
  clear z0 z1 z2 t1 t3 hs hd ha hb
  go_enter Try.func46, Try.ntmps46
  by_cases h1 : m = 1
  · subst h1
    have hV := hide (show Z = capI (s + T1) by rw [unhide hH]; first | rfl | decide)
    go_wp2_with fail
    go_fit (unhide K1 _)
    rintro e w1 ⟨rfl, rfl⟩
    cases hc : decide (255 < s + T1) with
    | true =>
      go_wp2_with fail
      go_ret
      exact ⟨by rw [unhide hV]; unfold capI; rw [if_pos (of_decide_eq_true hc)]; rfl, rfl⟩
    | false =>
      go_wp2_with fail
      go_ret
      exact ⟨by rw [unhide hV]; unfold capI; rw [if_neg (of_decide_eq_false hc)]; rfl, rfl⟩
  have e1 : (m == 1) = false := beq_eq_false_iff_ne.2 h1
  by_cases h2 : m = 2
  · subst h2
    have hV := hide (show Z = capI (T2) by rw [unhide hH]; first | rfl | decide)
    go_wp2_with fail
    go_fit (unhide K2 _)
    rintro e w1 ⟨rfl, rfl⟩
    cases hc : decide (255 < T2) with
    | true =>
      go_wp2_with fail
      go_ret
      exact ⟨by rw [unhide hV]; unfold capI; rw [if_pos (of_decide_eq_true hc)]; rfl, rfl⟩
    | false =>
      go_wp2_with fail
      go_ret
      exact ⟨by rw [unhide hV]; unfold capI; rw [if_neg (of_decide_eq_false hc)]; rfl, rfl⟩
  have e2 : (m == 2) = false := beq_eq_false_iff_ne.2 h2
  by_cases h3 : m = 3
  · subst h3
    have hV := hide (show Z = capI (s + d - T3) by rw [unhide hH]; first | rfl | decide)
    go_wp2_with fail
    go_fit (unhide K3 _)
    rintro e w1 ⟨rfl, rfl⟩
    cases hc : decide (255 < s + d - T3) with
    | true =>
      go_wp2_with fail
      go_ret
      exact ⟨by rw [unhide hV]; unfold capI; rw [if_pos (of_decide_eq_true hc)]; rfl, rfl⟩
    | false =>
      go_wp2_with fail
      go_ret
      exact ⟨by rw [unhide hV]; unfold capI; rw [if_neg (of_decide_eq_false hc)]; rfl, rfl⟩
  have e3 : (m == 3) = false := beq_eq_false_iff_ne.2 h3
  by_cases h4 : m = 4
  · subst h4
    have hV := hide (show Z = capI (s + d) by rw [unhide hH]; first | rfl | decide)
    cases hc : decide (255 < s + d) with
    | true =>
      go_wp2_with fail
      go_ret
      exact ⟨by rw [unhide hV]; unfold capI; rw [if_pos (of_decide_eq_true hc)]; rfl, rfl⟩
    | false =>
      go_wp2_with fail
      go_ret
      exact ⟨by rw [unhide hV]; unfold capI; rw [if_neg (of_decide_eq_false hc)]; rfl, rfl⟩
  have e4 : (m == 4) = false := beq_eq_false_iff_ne.2 h4
  by_cases h5 : m = 5
  · subst h5
    have hV := hide (show Z = capI (T1) by rw [unhide hH]; first | rfl | decide)
    go_wp2_with fail
    go_fit (unhide K1 _)
    rintro e w1 ⟨rfl, rfl⟩
    cases hc : decide (255 < T1) with
    | true =>
      go_wp2_with fail
      go_ret
      exact ⟨by rw [unhide hV]; unfold capI; rw [if_pos (of_decide_eq_true hc)]; rfl, rfl⟩
    | false =>
      go_wp2_with fail
      go_ret
      exact ⟨by rw [unhide hV]; unfold capI; rw [if_neg (of_decide_eq_false hc)]; rfl, rfl⟩
  have e5 : (m == 5) = false := beq_eq_false_iff_ne.2 h5
  have hV := hide (show Z = capI d by rw [unhide hH, if_neg h1, if_neg h2, if_neg h3, if_neg h4, if_neg h5])
  cases hc : decide (255 < d) with
  | true =>
    go_wp2_with fail
    go_ret
    exact ⟨by rw [unhide hV]; unfold capI; rw [if_pos (of_decide_eq_true hc)]; rfl, rfl⟩
  | false =>
    go_wp2_with fail
    go_ret
    exact ⟨by rw [unhide hV]; unfold capI; rw [if_neg (of_decide_eq_false hc)]; rfl, rfl⟩

set_option maxHeartbeats 16000000 in
set_option maxRecDepth 100000 in
theorem specBlend_any (m r g b a r2 g2 b2 a2 : Int) (w : World) :
    Calls Try.prog 28 #[.int .i64 m, .agg #[.int .i64 r, .int .i64 g, .int .i64 b, .int .i64 a], .agg #[.int .i64 r2, .int .i64 g2, .int .i64 b2, .int .i64 a2]] w fun e w' => e = .returned (.agg #[.int .i64 ((blendC m ⟨r, g, b, a⟩ ⟨r2, g2, b2, a2⟩).x0), .int .i64 ((blendC m ⟨r, g, b, a⟩ ⟨r2, g2, b2, a2⟩).y0), .int .i64 ((blendC m ⟨r, g, b, a⟩ ⟨r2, g2, b2, a2⟩).x1), .int .i64 ((blendC m ⟨r, g, b, a⟩ ⟨r2, g2, b2, a2⟩).y1)]) ∧ Below w.heap.size w w' := by
  have E := hide (specLaidOk_any r g b a)
  have E2 := hide (specLaidOk_any r2 g2 b2 a2)
  have hH : Hid (blendC m ⟨r, g, b, a⟩ ⟨r2, g2, b2, a2⟩ = if laidOkB ⟨r, g, b, a⟩ = true ∧ laidOkB ⟨r2, g2, b2, a2⟩ = true then ⟨blendI m r r2 a a2, blendI m g g2 a a2, blendI m b b2 a a2, blendI m a a2 a a2⟩ else ⟨r2, g2, b2, a2⟩) := rfl
  have hok : Hid (∀ (r g b a : Int), laidOkB ⟨r, g, b, a⟩ = true → ((0 ≤ r ∧ r ≤ 255) ∧ (0 ≤ g ∧ g ≤ 255) ∧ (0 ≤ b ∧ b ≤ 255) ∧ (0 ≤ a ∧ a ≤ 255))) := fun r g b a h => by
    have h1 := laidOk_iff.1 h
    dsimp only at h1
    omega
  have ok1 := hide (unhide hok r g b a)
  have ok2 := hide (unhide hok r2 g2 b2 a2)
  clear hok
  generalize laidOkB ⟨r, g, b, a⟩ = X at E hH ok1
  generalize laidOkB ⟨r2, g2, b2, a2⟩ = Y at E2 hH ok2
  generalize blendC m ⟨r, g, b, a⟩ ⟨r2, g2, b2, a2⟩ = C at hH ⊢
  go_enter Try.func28, Try.ntmps28
  go_upto_region 1 with fail
  have R1 := hide (al3_0 w (.cells #[.int .i64 r, .int .i64 g, .int .i64 b, .int .i64 a] 42) (.cells #[.int .i64 r2, .int .i64 g2, .int .i64 b2, .int .i64 a2] 42) (.cells #[.int .i64 0, .int .i64 0, .int .i64 0, .int .i64 0] 42))
  have R2 := hide (al3_1 w (.cells #[.int .i64 r, .int .i64 g, .int .i64 b, .int .i64 a] 42) (.cells #[.int .i64 r2, .int .i64 g2, .int .i64 b2, .int .i64 a2] 42) (.cells #[.int .i64 0, .int .i64 0, .int .i64 0, .int .i64 0] 42))
  have R3 := hide (al3_2 w (.cells #[.int .i64 r, .int .i64 g, .int .i64 b, .int .i64 a] 42) (.cells #[.int .i64 r2, .int .i64 g2, .int .i64 b2, .int .i64 a2] 42) (.cells #[.int .i64 0, .int .i64 0, .int .i64 0, .int .i64 0] 42))
  have HB := hide (al3_below w (.cells #[.int .i64 r, .int .i64 g, .int .i64 b, .int .i64 a] 42) (.cells #[.int .i64 r2, .int .i64 g2, .int .i64 b2, .int .i64 a2] 42) (.cells #[.int .i64 0, .int .i64 0, .int .i64 0, .int .i64 0] 42))
  obtain ⟨b3, hb3⟩ : ∃ b, Hid (b = w.heap.size + 1 + 1) := ⟨_, rfl⟩
  obtain ⟨b2', hb2⟩ : ∃ b, Hid (b = w.heap.size + 1) := ⟨_, rfl⟩
  obtain ⟨b1, hb1⟩ : ∃ b, Hid (b = w.heap.size) := ⟨_, rfl⟩
  have lz : Hid (w.heap.size ≤ b3 ∧ b1 < b3 ∧ b2' < b3) := by unfold Hid; rw [unhide hb3, unhide hb2, unhide hb1]; omega
  rw [← unhide hb3] at R3
  rw [← unhide hb2] at R2
  rw [← unhide hb1] at R1
  rw [← unhide hb3, ← unhide hb2, ← unhide hb1]
  generalize (((w.alloc (.cells #[.int .i64 r, .int .i64 g, .int .i64 b, .int .i64 a] 42)).alloc (.cells #[.int .i64 r2, .int .i64 g2, .int .i64 b2, .int .i64 a2] 42)).alloc (.cells #[.int .i64 0, .int .i64 0, .int .i64 0, .int .i64 0] 42)) = W at R1 R2 R3 HB ⊢
  clear hb3 hb2 hb1
  obtain ⟨q0, q1, q2, q3⟩ := row4 (unhide R1)
  go_wp2_with fail
  go_fit (unhide E _)
  rintro e w1 ⟨rfl, hb⟩
  replace R1 := hide (row_next hb (unhide R1))
  replace R2 := hide (row_next hb (unhide R2))
  replace R3 := hide (row_next hb (unhide R3))
  replace HB := hide (below_two (unhide HB) hb)
  clear hb q0 q1 q2 q3
  obtain ⟨p0, p1, p2, p3⟩ := row4 (unhide R2)
  obtain ⟨e0, e1, e2, e3⟩ := row4 (unhide R3)
  obtain ⟨f0, f1, f2, f3⟩ := free4 (unhide R3)
  cases X with
  | false =>
    have hC := hide (show C = ⟨r2, g2, b2, a2⟩ by rw [unhide hH]; exact if_neg (fun e => absurd e.1 (by decide)))
    go_wp2_with fail
    refine bodyPost_ret (v := .agg #[.int .i64 r2, .int .i64 g2, .int .i64 b2, .int .i64 a2]) (by simp [results, Try.results28, go_sem, e0, e1, e2, e3]) rfl ⟨by rw [unhide hC], ?_⟩
    exact below_put4 (unhide HB) (unhide lz).1 _ _ _ _
  | true =>
  go_wp2_with fail
  go_fit (unhide E2 _)
  rintro e w2 ⟨rfl, hb⟩
  replace R1 := hide (row_next hb (unhide R1))
  replace R2 := hide (row_next hb (unhide R2))
  replace R3 := hide (row_next hb (unhide R3))
  replace HB := hide (below_two (unhide HB) hb)
  clear hb p0 p1 p2 p3 e0 e1 e2 e3 f0 f1 f2 f3
  obtain ⟨q0, q1, q2, q3⟩ := row4 (unhide R1)
  obtain ⟨p0, p1, p2, p3⟩ := row4 (unhide R2)
  obtain ⟨e0, e1, e2, e3⟩ := row4 (unhide R3)
  obtain ⟨f0, f1, f2, f3⟩ := free4 (unhide R3)
  cases Y with
  | false =>
    have hC := hide (show C = ⟨r2, g2, b2, a2⟩ by rw [unhide hH]; exact if_neg (fun e => absurd e.2 (by decide)))
    go_wp2_with fail
    refine bodyPost_ret (v := .agg #[.int .i64 r2, .int .i64 g2, .int .i64 b2, .int .i64 a2]) (by simp [results, Try.results28, go_sem, e0, e1, e2, e3]) rfl ⟨by rw [unhide hC], ?_⟩
    exact below_put4 (unhide HB) (unhide lz).1 _ _ _ _
  | true =>
    have hC := hide (show C = ⟨blendI m r r2 a a2, blendI m g g2 a a2, blendI m b b2 a a2, blendI m a a2 a a2⟩ by rw [unhide hH]; exact if_pos ⟨by trivial, by trivial⟩)
    obtain ⟨g0, g1, g2', g3⟩ := unhide ok1 (by trivial)
    obtain ⟨h0, h1, h2, h3⟩ := unhide ok2 (by trivial)
    have K0 := hide (specPart13_any m r r2 a a2 g0 h0 g3 h3)
    have K1 := hide (specPart13_any m g g2 a a2 g1 h1 g3 h3)
    have K2 := hide (specPart13_any m b b2 a a2 g2' h2 g3 h3)
    have K3 := hide (specPart13_any m a a2 a a2 g3 h3 g3 h3)
    generalize blendI m r r2 a a2 = o0 at K0 hC
    generalize blendI m g g2 a a2 = o1 at K1 hC
    generalize blendI m b b2 a a2 = o2 at K2 hC
    generalize blendI m a a2 a a2 = o3 at K3 hC
    clear g0 g1 g2' g3 h0 h1 h2 h3 ok1 ok2 hH E E2
    have ne1 : ¬ b3 = b1 := by have := unhide lz; omega
    have ne2 : ¬ b1 = b3 := by have := unhide lz; omega
    have ne3 : ¬ b3 = b2' := by have := unhide lz; omega
    have ne4 : ¬ b2' = b3 := by have := unhide lz; omega
    go_upto_region 3 with fail
    go_region_held3 (fun u => u.cell? ⟨b1, 0, none⟩ = some (.int .i64 r) ∧ u.cell? ⟨b1, 1, none⟩ = some (.int .i64 g) ∧ u.cell? ⟨b1, 2, none⟩ = some (.int .i64 b) ∧ u.cell? ⟨b1, 3, none⟩ = some (.int .i64 a) ∧ u.cell? ⟨b2', 0, none⟩ = some (.int .i64 r2) ∧ u.cell? ⟨b2', 1, none⟩ = some (.int .i64 g2) ∧ u.cell? ⟨b2', 2, none⟩ = some (.int .i64 b2) ∧ u.cell? ⟨b2', 3, none⟩ = some (.int .i64 a2)) (go_keep) (first | (go_at_call 46; (first | go_fit (unhide K0 _) | go_fit (unhide K1 _) | go_fit (unhide K2 _) | go_fit (unhide K3 _)); rintro e w4 ⟨rfl, rfl⟩))
    all_goals
      go_wp2_with fail
      refine bodyPost_ret (v := .agg #[.int .i64 o0, .int .i64 o1, .int .i64 o2, .int .i64 o3]) (by simp [results, Try.results28, go_sem, e0, e1, e2, e3]) rfl ⟨by rw [unhide hC], ?_⟩
      exact below_put4 (below_drews (unhide HB) 1) (unhide lz).1 _ _ _ _
end Go.Proofs.Ythelfgippiimiac

/-
  The specification's surfaces.
-/
namespace Go.Proofs.Ythelfgippiimiac
open Go.RowKit
set_option linter.unusedVariables false

set_option maxHeartbeats 4000000 in
set_option maxRecDepth 100000 in
theorem specSurfaceOk_any (x y : Int) (f : Nat → B4) (ao : Option Addr) (n cp : Nat) (hn : n ≤ 1048576) (w : World) (P : ∀ i, i < n → ClAt w ao i (f i)) :
    Calls Try.prog 27 #[.agg #[.int .i64 x, .int .i64 y, .slice ao n cp]] w fun r w' => r = .returned (.bool (surfOkB x y n f)) ∧ Below w.heap.size w w' := by
  have EX := hide (l01In_any x 1 12)
  have EY := hide (l01In_any y 1 12)
  replace P := hide P
  have hyes : Hid (SOk x y n f → surfOkB x y n f = true) := fun h => surfOk_iff.2 h
  have hno : Hid (¬ SOk x y n f → surfOkB x y n f = false) := fun h => surfOk_no h
  generalize surfOkB x y n f = X at hyes hno ⊢
  have hS : Hid (SOk x y n f ↔ (inB x 1 12 = true) ∧ (inB y 1 12 = true) ∧ (n : Int) = x * y ∧ ∀ i, i < n → laidOkB (f i) = true) := by unfold Hid SOk; rw [inB_true, inB_true]
  have hpr : Hid (inB x 1 12 = true → inB y 1 12 = true → IntKind.i64.wrap (x * y) = x * y) := fun h1 h2 => IntWalk.i64_in _ (by have := side_prod (inB_true.1 h1) (inB_true.1 h2); omega)
  generalize SOk x y n f = M at hyes hno hS
  generalize inB x 1 12 = ix at EX hS hpr
  generalize inB y 1 12 = iy at EY hS hpr
  go_enter Try.func27, Try.ntmps27
  go_upto_region 1 with fail
  have R := hide (new_row w (.cells #[.int .i64 x, .int .i64 y, .slice ao n cp] 26))
  have HB := hide (al1_below w (.cells #[.int .i64 x, .int .i64 y, .slice ao n cp] 26))
  obtain ⟨b1, hb1⟩ : ∃ b, Hid (b = w.heap.size) := ⟨_, rfl⟩
  rw [← unhide hb1] at R
  rw [← unhide hb1]
  generalize w.alloc (.cells #[.int .i64 x, .int .i64 y, .slice ao n cp] 26) = W at R HB ⊢
  obtain ⟨r0, r1, r2⟩ := row3 (unhide R)
  go_wp2_with fail
  go_fit (unhide EX _)
  rintro r u1 ⟨rfl, rfl⟩
  cases ix with
  | false =>
    have hX := hide (unhide hno (fun h => by have := (unhide hS).1 h; cases this.1))
    go_wp2_with fail
    go_ret
    exact ⟨ret_bool (unhide hX).symm, unhide HB⟩
  | true =>
  go_wp2_with fail
  go_fit (unhide EY _)
  rintro r u1 ⟨rfl, rfl⟩
  cases iy with
  | false =>
    have hX := hide (unhide hno (fun h => by have := (unhide hS).1 h; cases this.2.1))
    go_wp2_with fail
    go_ret
    exact ⟨ret_bool (unhide hX).symm, unhide HB⟩
  | true =>
    have w3 := unhide hpr (by trivial) (by trivial)
    by_cases hq : (n : Int) = x * y
    · have hq1 := hide hq
      have hqb : ((n : Int) == x * y) = true := beq_iff_eq.2 hq
      rw [← hq] at w3
      go_upto_region 4 with fail
      go_wp2_with fail
      clear r0 r1 r2 w3 hqb hq
      go_loopw [3] (fun i u => ∃ k : Nat, k ≤ n ∧ i = .int .i64 k ∧ Hid (∀ j, j < k → laidOkB (f j) = true) ∧ Hid (Below w.heap.size w u) ∧ Hid (u.heap[b1]? = some (.cells #[.int .i64 x, .int .i64 y, .slice ao n cp] 26 (0, 0)))) (fun i _ => n - (intOf i).toNat)
      case atStart => exact ⟨0, Nat.zero_le _, rfl, fun j hj => absurd hj (by omega), HB, R⟩
      case round =>
        clear HB R
        obtain ⟨k, hk, rfl, HK, HB, R⟩ := hrel
        obtain ⟨r0, r1, r2⟩ := row3 (unhide R)
        by_cases hlt : k < n
        · have HP := (unhide P k hlt).next (unhide HB)
          obtain ⟨z, hz⟩ : ∃ z, Hid (f k = z) := ⟨_, rfl⟩
          rw [unhide hz] at HP
          obtain ⟨z0, z1, z2, z3⟩ := z
          obtain ⟨s0, o0, rfl, g0, g1, g2, g3⟩ := HP
          dsimp only at g0 g1 g2 g3
          have EI := hide (specLaidOk_any z0 z1 z2 z3)
          have hki : (k : Int) < (n : Int) := by omega
          cases hi : laidOkB ⟨z0, z1, z2, z3⟩ with
          | false =>
            rw [hi] at EI
            have hX := hide (unhide hno (fun h => by have := ((unhide hS).1 h).2.2.2 k hlt; rw [unhide hz, hi] at this; cases this))
            clear hi
            go_wp2_with fail
            go_fit (unhide EI _)
            rintro r u2 ⟨rfl, hb⟩
            replace HB := hide (below_two (unhide HB) hb)
            go_wp2_with fail
            go_ret
            exact ⟨ret_bool (unhide hX).symm, unhide HB⟩
          | true =>
            rw [hi] at EI
            have HK2 : Hid (∀ j, j < k + 1 → laidOkB (f j) = true) := cols_more (unhide HK) (by rw [unhide hz]; exact hi)
            clear hi
            go_wp2_with fail
            go_fit (unhide EI _)
            rintro r u2 ⟨rfl, hb⟩
            replace R := hide (row_next hb (unhide R))
            replace HB := hide (below_two (unhide HB) hb)
            clear hb r0 r1 r2 g0 g1 g2 g3
            go_wp2_with fail
            go_roundw
            case rel => exact ⟨k + 1, by omega, by go_num, HK2, HB, R⟩
            case measure => simp [intOf]; omega
        · have hke : k = n := by omega
          subst hke
          have hki : ¬ (k : Int) < (k : Int) := by omega
          have hX := hide (unhide hyes ((unhide hS).2 ⟨by trivial, by trivial, unhide hq1, unhide HK⟩))
          go_wp2_with fail
          go_ret
          exact ⟨ret_bool (unhide hX).symm, unhide HB⟩
    · have hX := hide (unhide hno (fun h => hq ((unhide hS).1 h).2.2.1))
      have hqb : ((n : Int) == x * y) = false := beq_eq_false_iff_ne.2 hq
      go_wp2_with fail
      go_ret
      exact ⟨ret_bool (unhide hX).symm, unhide HB⟩

/-- A call hands back a new surface and whether it is one. -/
def NewRes (w : World) (r : Ending) (w' : World) (x y : Int) : Prop :=
  ∃ p cp, r = .returned (.tuple #[.agg #[.int .i64 (newX x y), .int .i64 (newY x y), .slice p (newN x y) cp], .bool (newOkB x y)]) ∧ ColsV w' w.heap.size (.slice p (newN x y) cp) (newN x y) (fun _ => clear4) ∧ Below w.heap.size w w'

theorem made_clear (N : Nat) : BxAt (madeCells (Value.agg #[.int .i64 0, .int .i64 0, .int .i64 0, .int .i64 0]).cells (N * 4)).toList (fun _ => clear4) N := by
  intro j hj
  have h0 : j * 4 < N * 4 := by omega
  have h1 : j * 4 + 1 < N * 4 := by omega
  have h2 : j * 4 + 2 < N * 4 := by omega
  have h3 : j * 4 + 3 < N * 4 := by omega
  have e0 : j * 4 % 4 = 0 := by omega
  have e1 : (j * 4 + 1) % 4 = 1 := by omega
  have e2 : (j * 4 + 2) % 4 = 2 := by omega
  have e3 : (j * 4 + 3) % 4 = 3 := by omega
  simp [madeCells, Value.cells, h0, h1, h2, h3, e0, e1, e2, e3, clear4]
theorem cols_none (w : World) (base : Nat) (f : Nat → B4) : ColsV w base (.slice none 0 0) 0 f := ⟨[], World.ownsRow_nil _ _ _ _, fun i hi => absurd hi (by omega)⟩

set_option maxHeartbeats 4000000 in
set_option maxRecDepth 100000 in
theorem specSurfaceNew_any (x y : Int) (w : World) : Calls Try.prog 30 #[.int .i64 x, .int .i64 y] w fun r w' => NewRes w r w' x y := by
  obtain ⟨i0, hi, hz0, hz1, hz2⟩ := info_parts infoColor
  have EX := hide (l01In_any x 1 12)
  have EY := hide (l01In_any y 1 12)
  unfold NewRes newX newY newN
  by_cases hok : newOkB x y = true
  · have h' := newOk_iff.1 hok
    have hpr := side_prod h'.1 h'.2
    have vw : IntKind.i64.wrap (x * y) = x * y := IntWalk.i64_in _ (by omega)
    rw [inB_true.2 h'.1] at EX
    rw [inB_true.2 h'.2] at EY
    rw [if_pos hok, if_pos hok, if_pos hok, hok]
    obtain ⟨n, hnn⟩ : ∃ n : Nat, x * y = (n : Int) := ⟨(x * y).toNat, by omega⟩
    rw [hnn] at hpr vw ⊢
    have e1 : ((n : Int)).toNat = n := by omega
    rw [e1]
    replace hok := hide hok
    go_enter Try.func30, Try.ntmps30
    go_upto_region 1 with fail
    have R := hide (new_row w (.cells #[.int .i64 0, .int .i64 0, .slice none 0 0] 26))
    have HB := hide (al1_below w (.cells #[.int .i64 0, .int .i64 0, .slice none 0 0] 26))
    obtain ⟨b4, hb4⟩ : ∃ b, Hid (b = w.heap.size) := ⟨_, rfl⟩
    have lz : Hid (w.heap.size ≤ b4) := by unfold Hid; rw [unhide hb4]; omega
    rw [← unhide hb4] at R
    rw [← unhide hb4]
    generalize w.alloc (.cells #[.int .i64 0, .int .i64 0, .slice none 0 0] 26) = W at R HB ⊢
    clear hb4
    go_wp2_with fail
    go_fit (unhide EX _)
    rintro r u1 ⟨rfl, hu⟩
    rw [hu]
    clear hu u1
    go_wp2_with fail
    go_fit (unhide EY _)
    rintro r u2 ⟨rfl, hu⟩
    rw [hu]
    clear hu u2
    go_wp2_with (at_make; go_must (refine wpList_make_full W rfl _ _ 24 rfl W.heap.size 42 i0 (.agg #[.int .i64 0, .int .i64 0, .int .i64 0, .int .i64 0]) 4 Try.underlying24 hi hz0 hz1 .i64 .i64 _ _ n (by rfl) (by rfl) (by omega) (by omega) (by rw [hz2]; omega) (by unfold maxLen; omega) (Nat.le_refl _) ?_); intro w1 hown1 hg1; refine Hid.out ?_)
    have hb : Below W.heap.size W w1 := (Below.refl _ W).grown hg1 (Nat.le_refl _) (by simp)
    clear hg1
    have l4 := hide (show b4 < W.heap.size from heap_lt (unhide R))
    replace R := hide (row_next hb (unhide R))
    have lw := hide (show w.heap.size ≤ W.heap.size from (unhide HB).size)
    have O := hide (show ColsV w1 W.heap.size (.slice (some ⟨W.heap.size, 0, none⟩) n n) n (fun _ => clear4) from ⟨_, hown1, made_clear n⟩)
    replace HB := hide (below_two (unhide HB) hb)
    clear hown1 hb
    generalize W.heap.size = s at O l4 lw ⊢
    obtain ⟨c0, c1, c2⟩ := row3 (unhide R)
    obtain ⟨f0, f1, f2⟩ := frozen3 (unhide R)
    unfold Hid
    go_wp2_with fail
    refine bodyPost_ret (v := .tuple #[.agg #[.int .i64 x, .int .i64 y, .slice (some ⟨s, 0, none⟩) n n], .bool true]) (by simp [results, Try.results30, go_sem, c0, c1, c2]) rfl ⟨_, _, rfl, ?_, ?_⟩
    · obtain ⟨xs, o, hx⟩ := unhide O
      exact ⟨xs, own_low (own_put3 o (fun k hk => by have := (o.lt k hk).1; have := unhide l4; omega) _ _ _) (unhide lw), hx⟩
    · exact below_put3 (unhide HB) (unhide lz) _ _ _
  · have hf : newOkB x y = false := by cases e : newOkB x y with | true => exact absurd e hok | false => rfl
    have hor : Hid (inB x 1 12 = true → inB y 1 12 = false) := fun h => by
      unfold newOkB at hf
      rw [h] at hf
      simpa using hf
    rw [if_neg hok, if_neg hok, if_neg hok, hf]
    clear hok hf
    generalize inB x 1 12 = ix at EX hor
    generalize inB y 1 12 = iy at EY hor
    go_enter Try.func30, Try.ntmps30
    go_upto_region 1 with fail
    have R := hide (new_row w (.cells #[.int .i64 0, .int .i64 0, .slice none 0 0] 26))
    have HB := hide (al1_below w (.cells #[.int .i64 0, .int .i64 0, .slice none 0 0] 26))
    obtain ⟨b4, hb4⟩ : ∃ b, Hid (b = w.heap.size) := ⟨_, rfl⟩
    have lz : Hid (w.heap.size ≤ b4) := by unfold Hid; rw [unhide hb4]; omega
    rw [← unhide hb4] at R
    rw [← unhide hb4]
    generalize w.alloc (.cells #[.int .i64 0, .int .i64 0, .slice none 0 0] 26) = W at R HB ⊢
    clear hb4
    obtain ⟨c0, c1, c2⟩ := row3 (unhide R)
    obtain ⟨f0, f1, f2⟩ := frozen3 (unhide R)
    go_wp2_with fail
    go_fit (unhide EX _)
    rintro r u1 ⟨rfl, hu⟩
    rw [hu]
    clear hu u1
    cases ix with
    | false =>
      go_wp2_with fail
      refine bodyPost_ret (v := .tuple #[.agg #[.int .i64 0, .int .i64 0, .slice none 0 0], .bool false]) (by simp [results, Try.results30, go_sem, c0, c1, c2]) rfl ⟨_, _, rfl, cols_none _ _ _, ?_⟩
      exact below_put3 (unhide HB) (unhide lz) _ _ _
    | true =>
      rw [unhide hor (by trivial)] at EY
      go_wp2_with fail
      go_fit (unhide EY _)
      rintro r u2 ⟨rfl, hu⟩
      rw [hu]
      clear hu u2
      go_wp2_with fail
      refine bodyPost_ret (v := .tuple #[.agg #[.int .i64 0, .int .i64 0, .slice none 0 0], .bool false]) (by simp [results, Try.results30, go_sem, c0, c1, c2]) rfl ⟨_, _, rfl, cols_none _ _ _, ?_⟩
      exact below_put3 (unhide HB) (unhide lz) _ _ _

end Go.Proofs.Ythelfgippiimiac

/-
  The specification's copy of a surface.
-/
namespace Go.Proofs.Ythelfgippiimiac
open Go.RowKit
set_option linter.unusedVariables false

/-- The values of a list of colours. -/
def colsL (f : Nat → B4) (n : Nat) : List Value := csV ((List.range n).map f)
theorem colsL_len (f : Nat → B4) (n : Nat) : (colsL f n).length = n * 4 := by unfold colsL; rw [csV_len]; simp
theorem colsL_at (f : Nat → B4) (n : Nat) : BxAt (colsL f n) f n := by
  intro j hj
  have h := csV_get ((List.range n).map f) j (by simpa using hj)
  unfold colsL
  simpa using h
theorem colsL_one (f : Nat → B4) (n : Nat) : ∀ u ∈ colsL f n, u.oneCell' = true := by
  intro u hu
  unfold colsL csV at hu
  obtain ⟨p, _, hp⟩ := List.mem_flatMap.1 hu
  simp [clV] at hp
  rcases hp with rfl | rfl | rfl | rfl <;> rfl
theorem add_off (s o j : Nat) : (⟨s, o, none⟩ : Addr).add j = ⟨s, o + j, none⟩ := by unfold Addr.add; split <;> simp_all
theorem colsL_cells {w : World} {s o : Nat} {f : Nat → B4} {n : Nat} (H : ∀ i, i < n → ClAt w (some ⟨s, o, none⟩) i (f i)) : ∀ j u, (colsL f n)[j]? = some u → w.cell? ((⟨s, o, none⟩ : Addr).add j) = some u := by
  intro j u hu
  have hj : j < n * 4 := by have := (List.getElem?_eq_some_iff.1 hu).1; rw [colsL_len] at this; exact this
  have hi : j / 4 < n := by omega
  obtain ⟨s', o', e, g0, g1, g2, g3⟩ := H (j / 4) hi
  cases e
  obtain ⟨h0, h1, h2, h3⟩ := colsL_at f n (j / 4) hi
  rw [add_off]
  have hm : j = j / 4 * 4 + j % 4 := by omega
  have hr : j % 4 = 0 ∨ j % 4 = 1 ∨ j % 4 = 2 ∨ j % 4 = 3 := by omega
  rcases hr with h | h | h | h <;> rw [h] at hm
  · rw [hm, Nat.add_zero] at hu ⊢; rw [h0] at hu; cases hu; exact g0
  · rw [hm] at hu ⊢; rw [h1] at hu; cases hu; rw [← Nat.add_assoc]; exact g1
  · rw [hm] at hu ⊢; rw [h2] at hu; cases hu; rw [← Nat.add_assoc]; exact g2
  · rw [hm] at hu ⊢; rw [h3] at hu; cases hu; rw [← Nat.add_assoc]; exact g3
/-- 'append' of a list of colours, wherever it lies, onto an own one without anything, as one step of a region that draws its order. -/
theorem step_append_cols {P : Program} {ops : Array Oper} {o : Oper} {a : Act} {w : World} {K : Act → World → Prop} {Q : Exit → Act → World → Prop} {E : Prop} (hg : o.guard = none) (s x : Operand) (t : TypeId)
    (hop : o.op = .call { callee := .builtin .append, args := #[s, x], argTypes := #[t, t] })
    (base : Nat) (i : TypeInfo) (z : Value) (ht : P.underlying t = some (.slice 42)) (hi : P.info? 42 = some i) (hz : i.zero = some z) (hsize : i.size = 4) (hby : i.bytes = 32) (hzs : z.cells.size = 4)
    (v : Value) (hs : a.eval s = v) (hown : w.ownsRow base 42 4 v 0 [])
    (ao : Option Addr) (n c : Nat) (f : Nat → B4) (hx : a.eval x = .slice ao n c) (hao : ao = none → c = 0) (H : ∀ i, i < n → ClAt w ao i (f i)) (hn : n ≤ 1048576)
    (w0 : World) (B : Nat) (hB : B ≤ base) (hbase : base ≤ w.heap.size) (hnx : Below B w0 w)
    (hK : ∀ v' w', ColsV w' base v' n f → Below B w0 w' → K (a.put o.dst v') w') :
    if Region.wanted o (yielded ops a.tmps) = true then Oper.wp P o a w K Q else E := by
  have hw : Region.wanted o (yielded ops a.tmps) = true := by simp [Region.wanted, hg]
  cases ao with
  | none =>
    have hn0 : n = 0 := by
      rcases Nat.eq_zero_or_pos n with h | h
      · exact h
      · obtain ⟨_, _, e, _⟩ := H 0 h
        cases e
    obtain rfl := hao rfl
    subst hn0
    rw [if_pos hw]
    have hrun := run_append_owned_none (P := P) (w := w) base t o.type 42 i 4 ht hi v 0 [] hown
    unfold Oper.wp
    simp [execOp, hop, resolve, invoke, builtin, hs, hx, hrun, Result.andThen]
    exact hK _ _ ⟨[], hown, fun j hj => absurd hj (by omega)⟩ hnx
  | some ad =>
    rcases Nat.eq_zero_or_pos n with h0 | h0
    · subst h0
      refine step_append_any hg s x t 42 hop base i z 4 32 ht hi hz hsize hby hzs (by decide) v 0 [] hs hown ad 0 c [] hx rfl (fun j u hu => by simp at hu) (fun u hu => by simp at hu) (by unfold maxLen; omega) (by omega) w0 B hB hbase hnx ?_
      intro v' w' ho hb
      exact hK v' w' ⟨_, ho, fun j hj => absurd hj (by omega)⟩ hb
    · obtain ⟨s0, o0, e, _⟩ := H 0 h0
      cases e
      refine step_append_any hg s x t 42 hop base i z 4 32 ht hi hz hsize hby hzs (by decide) v 0 [] hs hown ⟨s0, o0, none⟩ n c (colsL f n) hx (colsL_len f n) (colsL_cells H) (colsL_one f n) (by unfold maxLen; omega) (by omega) w0 B hB hbase hnx ?_
      intro v' w' ho hb
      rw [Nat.zero_add] at ho
      exact hK v' w' ⟨_, ho, colsL_at f n⟩ hb

set_option maxHeartbeats 8000000 in
set_option maxRecDepth 100000 in
theorem specL14Copy_any (x y : Int) (f : Nat → B4) (ao : Option Addr) (n cp : Nat) (hn : n ≤ 1048576) (hao : ao = none → cp = 0) (w : World) (P : ∀ i, i < n → ClAt w ao i (f i)) :
    Calls Try.prog 26 #[.agg #[.int .i64 x, .int .i64 y, .slice ao n cp]] w fun r w' => SurfRes w r w' x y n f := by
  obtain ⟨i0, hi, hz0, hz1, hz2⟩ := info_parts infoColor
  replace P := hide P
  replace hao := hide hao
  unfold SurfRes
  go_enter Try.func26, Try.ntmps26
  go_upto_region 1 with fail
  have R := hide (al2_0 w (.cells #[.int .i64 x, .int .i64 y, .slice ao n cp] 26) (.cells #[.int .i64 0, .int .i64 0, .slice none 0 0] 26))
  have R2 := hide (al2_1 w (.cells #[.int .i64 x, .int .i64 y, .slice ao n cp] 26) (.cells #[.int .i64 0, .int .i64 0, .slice none 0 0] 26))
  have HB := hide (al2_below w (.cells #[.int .i64 x, .int .i64 y, .slice ao n cp] 26) (.cells #[.int .i64 0, .int .i64 0, .slice none 0 0] 26))
  obtain ⟨b2, hb2⟩ : ∃ b, Hid (b = w.heap.size + 1) := ⟨_, rfl⟩
  obtain ⟨b1, hb1⟩ : ∃ b, Hid (b = w.heap.size) := ⟨_, rfl⟩
  have lz : Hid (w.heap.size ≤ b2 ∧ b1 < b2) := by unfold Hid; rw [unhide hb2, unhide hb1]; omega
  rw [← unhide hb2] at R2
  rw [← unhide hb1] at R
  rw [← unhide hb2, ← unhide hb1]
  generalize (w.alloc (.cells #[.int .i64 x, .int .i64 y, .slice ao n cp] 26)).alloc (.cells #[.int .i64 0, .int .i64 0, .slice none 0 0] 26) = W at R R2 HB ⊢
  clear hb2 hb1
  have l6 := hide (show b2 < W.heap.size from heap_lt (unhide R2))
  have ne1 : ¬ b2 = b1 := by have := unhide lz; omega
  have ne2 : ¬ b1 = b2 := by have := unhide lz; omega
  have k0 := hide (show ∀ u, Below b2 W u → (u.cell? ⟨b1, 0, none⟩ = some (.int .i64 x) ∧ u.cell? ⟨b1, 1, none⟩ = some (.int .i64 y) ∧ u.cell? ⟨b1, 2, none⟩ = some (.slice ao n cp) ∧ Below b2 W u) from fun u h => by
    obtain ⟨c0, c1, c2⟩ := row3 ((h.block b1 (unhide lz).2).trans (unhide R))
    exact ⟨c0, c1, c2, h⟩)
  have k00 := hide (unhide k0 _ (Below.refl _ _).drew)
  have oE := hide (show ((W.alloc (.cells #[] 42)).drew).ownsRow W.heap.size 42 4 (.slice (some ⟨W.heap.size, 0, none⟩) 0 0) 0 [] from World.ownsRow_lit W #[] 0 (Nat.le_refl _) (by decide) rfl)
  have bE := hide (show Below W.heap.size W (W.alloc (.cells #[] 42)).drew from (al1_below W (.cells #[] 42)).drew)
  have PE := hide (fun i hi => ((unhide P i hi).next (unhide HB)).next (unhide bE))
  go_region_held3 (fun u => u.cell? ⟨b1, 0, none⟩ = some (.int .i64 x) ∧ u.cell? ⟨b1, 1, none⟩ = some (.int .i64 y) ∧ u.cell? ⟨b1, 2, none⟩ = some (.slice ao n cp) ∧ Below b2 W u) ((first | with_reducible exact unhide k00 | (with_reducible refine unhide k0 _ ?_; first | with_reducible assumption | with_reducible exact Below.mono (by assumption) (Nat.le_of_lt (unhide l6)) | (with_reducible refine below_put3 ?_ (Nat.le_refl _) _ _ _; with_reducible exact Below.mono (by assumption) (Nat.le_of_lt (unhide l6))) | with_reducible exact Below.mono (unhide bE) (Nat.le_of_lt (unhide l6))))) (first | (refine step_append_cols rfl _ _ 24 (by rfl) W.heap.size i0 (.agg #[.int .i64 0, .int .i64 0, .int .i64 0, .int .i64 0]) Try.underlying24 hi hz0 hz1 hz2 rfl _ (by rfl) (unhide oE) ao n cp f (by rfl) (unhide hao) (unhide PE) hn W W.heap.size (Nat.le_refl _) (unhide bE).size (unhide bE) ?_; intro v6 w6 hc hb6; obtain ⟨xs6, o6, x6⟩ := hc; obtain ⟨p6, c6, rfl⟩ := own_form o6; obtain ⟨e0, e1, e2⟩ := row3 (row_next hb6 (unhide R2)); obtain ⟨f0, f1, f2⟩ := frozen3 (row_next hb6 (unhide R2)); replace o6 := hide o6; replace x6 := hide x6))
  all_goals
    go_wp2_with fail
    refine bodyPost_ret (v := .agg #[.int .i64 x, .int .i64 y, .slice p6 n c6]) (by simp [results, Try.results26, go_sem, e0, e1, e2]) rfl ⟨p6, c6, rfl, ⟨xs6, ?_, unhide x6⟩, ?_⟩
    · exact own_low (own_put3 (unhide o6) (fun k hk => by have := ((unhide o6).lt k hk).1; have := unhide l6; omega) _ _ _) (unhide HB).size
    · exact below_put3 (below_two (unhide HB) hb6) (unhide lz).1 _ _ _
end Go.Proofs.Ythelfgippiimiac

/-
  The specification's ColorAt.
-/
namespace Go.Proofs.Ythelfgippiimiac
open Go.RowKit
set_option linter.unusedVariables false

theorem plain_ok {p : P13} (h : paintOkB p = true) : colorOkB p.f = true ∧ (p.k ≠ 1 → p.k = 2) := by
  unfold paintOkB at h
  simp only [Bool.and_eq_true, Bool.or_eq_true, decide_eq_true_eq] at h
  refine ⟨h.1, fun hk => ?_⟩
  rcases h.2 with h | h
  · exact absurd h.1 hk
  · exact h.1

set_option maxHeartbeats 8000000 in
set_option maxRecDepth 100000 in
theorem specColorAt_any (k r g b a r2 g2 b2 a2 fx fy tx ty : Int) (x y : Int) (w : World) :
    Calls Try.prog 52 #[.agg #[.int .i64 k, .int .i64 r, .int .i64 g, .int .i64 b, .int .i64 a, .int .i64 r2, .int .i64 g2, .int .i64 b2, .int .i64 a2, .int .i64 fx, .int .i64 fy, .int .i64 tx, .int .i64 ty], .int .i64 x, .int .i64 y] w fun e w' => e = .returned (.agg #[.int .i64 ((colorAtC ⟨k, ⟨r, g, b, a⟩, ⟨r2, g2, b2, a2⟩, fx, fy, tx, ty⟩ x y).x0), .int .i64 ((colorAtC ⟨k, ⟨r, g, b, a⟩, ⟨r2, g2, b2, a2⟩, fx, fy, tx, ty⟩ x y).y0), .int .i64 ((colorAtC ⟨k, ⟨r, g, b, a⟩, ⟨r2, g2, b2, a2⟩, fx, fy, tx, ty⟩ x y).x1), .int .i64 ((colorAtC ⟨k, ⟨r, g, b, a⟩, ⟨r2, g2, b2, a2⟩, fx, fy, tx, ty⟩ x y).y1)]) ∧ Below w.heap.size w w' := by
  have EP := hide (specPaintOk_any k r g b a r2 g2 b2 a2 fx fy tx ty)
  have ER := hide (specPartOf_any k r g b a r2 g2 b2 a2 fx fy tx ty x y)
  have EL := hide (specLaid_any r g b a)
  have bt := part_bd ⟨k, ⟨r, g, b, a⟩, ⟨r2, g2, b2, a2⟩, fx, fy, tx, ty⟩ x y
  have hH : Hid (colorAtC ⟨k, ⟨r, g, b, a⟩, ⟨r2, g2, b2, a2⟩, fx, fy, tx, ty⟩ x y = if paintOkB ⟨k, ⟨r, g, b, a⟩, ⟨r2, g2, b2, a2⟩, fx, fy, tx, ty⟩ = true then (if k = 1 then laidC ⟨r, g, b, a⟩ else laidC (mixC ⟨r, g, b, a⟩ ⟨r2, g2, b2, a2⟩ (partI ⟨k, ⟨r, g, b, a⟩, ⟨r2, g2, b2, a2⟩, fx, fy, tx, ty⟩ x y))) else ⟨0, 0, 0, 0⟩) := rfl
  have hok : Hid (paintOkB ⟨k, ⟨r, g, b, a⟩, ⟨r2, g2, b2, a2⟩, fx, fy, tx, ty⟩ = true → k ≠ 1 → colorOkB ⟨r, g, b, a⟩ = true ∧ colorOkB ⟨r2, g2, b2, a2⟩ = true) := fun h1 h2 => by
    have h3 := plain_ok (p := ⟨k, ⟨r, g, b, a⟩, ⟨r2, g2, b2, a2⟩, fx, fy, tx, ty⟩) h1
    have h4 := slope_bd (p := ⟨k, ⟨r, g, b, a⟩, ⟨r2, g2, b2, a2⟩, fx, fy, tx, ty⟩) (h3.2 h2) h1
    exact ⟨h4.2.2.2.2.2.1, h4.2.2.2.2.2.2⟩
  generalize paintOkB ⟨k, ⟨r, g, b, a⟩, ⟨r2, g2, b2, a2⟩, fx, fy, tx, ty⟩ = X at EP hH hok
  generalize partI ⟨k, ⟨r, g, b, a⟩, ⟨r2, g2, b2, a2⟩, fx, fy, tx, ty⟩ x y = t at ER bt hH
  generalize colorAtC ⟨k, ⟨r, g, b, a⟩, ⟨r2, g2, b2, a2⟩, fx, fy, tx, ty⟩ x y = C at hH ⊢
  go_enter Try.func52, Try.ntmps52
  go_upto_region 1 with fail
  have R3 := hide (al2_0 w (.cells #[.int .i64 k, .int .i64 r, .int .i64 g, .int .i64 b, .int .i64 a, .int .i64 r2, .int .i64 g2, .int .i64 b2, .int .i64 a2, .int .i64 fx, .int .i64 fy, .int .i64 tx, .int .i64 ty] 60) (.cells #[.int .i64 0, .int .i64 0, .int .i64 0, .int .i64 0] 42))
  have R6 := hide (al2_1 w (.cells #[.int .i64 k, .int .i64 r, .int .i64 g, .int .i64 b, .int .i64 a, .int .i64 r2, .int .i64 g2, .int .i64 b2, .int .i64 a2, .int .i64 fx, .int .i64 fy, .int .i64 tx, .int .i64 ty] 60) (.cells #[.int .i64 0, .int .i64 0, .int .i64 0, .int .i64 0] 42))
  have HB := hide (al2_below w (.cells #[.int .i64 k, .int .i64 r, .int .i64 g, .int .i64 b, .int .i64 a, .int .i64 r2, .int .i64 g2, .int .i64 b2, .int .i64 a2, .int .i64 fx, .int .i64 fy, .int .i64 tx, .int .i64 ty] 60) (.cells #[.int .i64 0, .int .i64 0, .int .i64 0, .int .i64 0] 42))
  obtain ⟨b6, hb6⟩ : ∃ b, Hid (b = w.heap.size + 1) := ⟨_, rfl⟩
  obtain ⟨b3, hb3⟩ : ∃ b, Hid (b = w.heap.size) := ⟨_, rfl⟩
  have lz : Hid (w.heap.size ≤ b6 ∧ b3 < b6) := by unfold Hid; rw [unhide hb6, unhide hb3]; omega
  rw [← unhide hb6] at R6
  rw [← unhide hb3] at R3
  rw [← unhide hb6, ← unhide hb3]
  generalize (w.alloc (.cells #[.int .i64 k, .int .i64 r, .int .i64 g, .int .i64 b, .int .i64 a, .int .i64 r2, .int .i64 g2, .int .i64 b2, .int .i64 a2, .int .i64 fx, .int .i64 fy, .int .i64 tx, .int .i64 ty] 60)).alloc (.cells #[.int .i64 0, .int .i64 0, .int .i64 0, .int .i64 0] 42) = W at R3 R6 HB ⊢
  clear hb6 hb3
  obtain ⟨c0, c1, c2, c3, c4, c5, c6, c7, c8, c9, c10, c11, c12⟩ := row13 (unhide R3)
  go_wp2_with fail
  go_fit (unhide EP _)
  rintro e w1 ⟨rfl, hb⟩
  replace R3 := hide (row_next hb (unhide R3))
  replace R6 := hide (row_next hb (unhide R6))
  replace HB := hide (below_two (unhide HB) hb)
  clear hb c0 c1 c2 c3 c4 c5 c6 c7 c8 c9 c10 c11 c12
  cases X with
  | false =>
    have hC := hide (show C = ⟨0, 0, 0, 0⟩ by rw [unhide hH]; rfl)
    obtain ⟨e0, e1, e2, e3⟩ := row4 (unhide R6)
    obtain ⟨f0, f1, f2, f3⟩ := free4 (unhide R6)
    go_wp2_with fail
    refine bodyPost_ret (v := .agg #[.int .i64 0, .int .i64 0, .int .i64 0, .int .i64 0]) (by simp [results, Try.results52, go_sem, e0, e1, e2, e3]) rfl ⟨by rw [unhide hC], ?_⟩
    exact below_put4 (unhide HB) (unhide lz).1 _ _ _ _
  | true =>
  obtain ⟨c0, c1, c2, c3, c4, c5, c6, c7, c8, c9, c10, c11, c12⟩ := row13 (unhide R3)
  by_cases hk : k = 1
  · subst hk
    have hC := hide (show C = laidC ⟨r, g, b, a⟩ by rw [unhide hH]; rfl)
    generalize laidC ⟨r, g, b, a⟩ = D at EL hC
    go_wp2_with fail
    go_fit (unhide EL _)
    rintro e w2 ⟨rfl, hb⟩
    replace R6 := hide (row_next hb (unhide R6))
    replace HB := hide (below_two (unhide HB) hb)
    clear hb c0 c1 c2 c3 c4 c5 c6 c7 c8 c9 c10 c11 c12
    obtain ⟨e0, e1, e2, e3⟩ := row4 (unhide R6)
    obtain ⟨f0, f1, f2, f3⟩ := free4 (unhide R6)
    go_wp2_with fail
    refine bodyPost_ret (v := .agg #[.int .i64 D.x0, .int .i64 D.y0, .int .i64 D.x1, .int .i64 D.y1]) (by simp [results, Try.results52, go_sem, e0, e1, e2, e3]) rfl ⟨by rw [unhide hC], ?_⟩
    exact below_put4 (unhide HB) (unhide lz).1 _ _ _ _
  · have hkb : (k == 1) = false := beq_eq_false_iff_ne.2 hk
    obtain ⟨o1, o2⟩ := unhide hok (by trivial) hk
    have hC := hide (show C = laidC (mixC ⟨r, g, b, a⟩ ⟨r2, g2, b2, a2⟩ t) by rw [unhide hH, if_pos rfl, if_neg hk])
    obtain ⟨f1, f2, f3, f4⟩ := colorOk_iff.1 o1
    obtain ⟨l1, l2, l3, l4⟩ := colorOk_iff.1 o2
    have K0 := hide (specMix_any r r2 t f1 l1 bt)
    have K1 := hide (specMix_any g g2 t f2 l2 bt)
    have K2 := hide (specMix_any b b2 t f3 l3 bt)
    have K3 := hide (specMix_any a a2 t f4 l4 bt)
    unfold mixC at hC
    dsimp only at hC
    generalize mixI r r2 t = m0 at K0 hC
    generalize mixI g g2 t = m1 at K1 hC
    generalize mixI b b2 t = m2 at K2 hC
    generalize mixI a a2 t = m3 at K3 hC
    have KL := hide (specLaid_any m0 m1 m2 m3)
    generalize laidC ⟨m0, m1, m2, m3⟩ = D at KL hC
    clear o1 o2 f1 f2 f3 f4 l1 l2 l3 l4 bt hok hH EL
    go_wp2_with fail
    go_fit (unhide ER _)
    rintro e w2 ⟨rfl, hb⟩
    replace R3 := hide (row_next hb (unhide R3))
    replace R6 := hide (row_next hb (unhide R6))
    replace HB := hide (below_two (unhide HB) hb)
    clear hb c0 c1 c2 c3 c4 c5 c6 c7 c8 c9 c10 c11 c12
    go_upto_region 6 with fail
    have ne1 : ¬ b6 = b3 := by have := unhide lz; omega
    have ne2 : ¬ b3 = b6 := by have := unhide lz; omega
    have l6 := hide (show b6 ≤ w2.heap.size from Nat.le_of_lt (heap_lt (unhide R6)))
    have k0 := hide (show ∀ u, Below b6 w2 u → (u.cell? ⟨b3, 1, none⟩ = some (.int .i64 r) ∧ u.cell? ⟨b3, 2, none⟩ = some (.int .i64 g) ∧ u.cell? ⟨b3, 3, none⟩ = some (.int .i64 b) ∧ u.cell? ⟨b3, 4, none⟩ = some (.int .i64 a) ∧ u.cell? ⟨b3, 5, none⟩ = some (.int .i64 r2) ∧ u.cell? ⟨b3, 6, none⟩ = some (.int .i64 g2) ∧ u.cell? ⟨b3, 7, none⟩ = some (.int .i64 b2) ∧ u.cell? ⟨b3, 8, none⟩ = some (.int .i64 a2) ∧ Below b6 w2 u) from fun u h => by
      obtain ⟨c0, c1, c2, c3, c4, c5, c6, c7, c8, c9, c10, c11, c12⟩ := row13 ((h.block b3 (unhide lz).2).trans (unhide R3))
      exact ⟨c1, c2, c3, c4, c5, c6, c7, c8, h⟩)
    have k00 := hide (unhide k0 _ (Below.refl _ _).drew)
    go_region_held3 (fun u => u.cell? ⟨b3, 1, none⟩ = some (.int .i64 r) ∧ u.cell? ⟨b3, 2, none⟩ = some (.int .i64 g) ∧ u.cell? ⟨b3, 3, none⟩ = some (.int .i64 b) ∧ u.cell? ⟨b3, 4, none⟩ = some (.int .i64 a) ∧ u.cell? ⟨b3, 5, none⟩ = some (.int .i64 r2) ∧ u.cell? ⟨b3, 6, none⟩ = some (.int .i64 g2) ∧ u.cell? ⟨b3, 7, none⟩ = some (.int .i64 b2) ∧ u.cell? ⟨b3, 8, none⟩ = some (.int .i64 a2) ∧ Below b6 w2 u) ((first | with_reducible exact unhide k00 | (refine unhide k0 _ ?_; first | with_reducible assumption | with_reducible exact (Below.refl _ _).drew | (with_reducible refine below_put4 ?_ (Nat.le_refl _) _ _ _ _; with_reducible assumption)))) (first | (go_at_call 77; (first | go_fit (unhide K0 _) | go_fit (unhide K1 _) | go_fit (unhide K2 _) | go_fit (unhide K3 _)); rintro e w4 ⟨rfl, rfl⟩) | (go_at_call 75; go_fit (unhide KL _); rintro e w5 ⟨rfl, hb5⟩; have h5 := below_undrew hb5; obtain ⟨e0, e1, e2, e3⟩ := row4 (row_next h5 (unhide R6)); obtain ⟨f0, f1, f2, f3⟩ := free4 (row_next h5 (unhide R6)); have h6 := h5.mono (unhide l6)))
    all_goals
      go_wp2_with fail
      refine bodyPost_ret (v := .agg #[.int .i64 D.x0, .int .i64 D.y0, .int .i64 D.x1, .int .i64 D.y1]) (by simp [results, Try.results52, go_sem, e0, e1, e2, e3]) rfl ⟨by rw [unhide hC], ?_⟩
      exact below_put4 (below_two (unhide HB) h5) (unhide lz).1 _ _ _ _
end Go.Proofs.Ythelfgippiimiac

/-
  The specification's PaintMask.
-/
namespace Go.Proofs.Ythelfgippiimiac
open Go.RowKit
set_option linter.unusedVariables false

theorem grown_put4 {a w : World} {g : Nat} (h : a.grownBy w (some g)) (o0 o1 o2 o3 : Nat) (x y z u : Value) : a.grownBy ((((w.setCell ⟨g, o0, none⟩ x).setCell ⟨g, o1, none⟩ y).setCell ⟨g, o2, none⟩ z).setCell ⟨g, o3, none⟩ u) (some g) := by
  refine ⟨h.os, h.tape, h.output, ?_, fun k hk hne => ?_⟩
  · rw [setc_size, setc_size, setc_size, setc_size]; exact h.size
  · have hne' : k ≠ g := fun e => hne (by rw [e])
    rw [← h.block k hk hne]
    simp [World.setCell, Array.getElem?_modify, Ne.symm hne']
theorem row_grown {u v : World} {b g : Nat} {o : Obj} (hg : u.grownBy v (some g)) (hne : b ≠ g) (h : u.heap[b]? = some o) : v.heap[b]? = some o := (hg.block b (heap_lt h) (fun e => hne (Option.some.inj e))).trans h
theorem cell_grown {u v : World} {g : Nat} {p : Addr} {x : Value} (hg : u.grownBy v (some g)) (hne : p.block ≠ g) (h : u.cell? p = some x) : v.cell? p = some x := hg.cell h (fun e => hne (Option.some.inj e))

set_option maxHeartbeats 16000000 in
set_option maxRecDepth 100000 in
theorem specPaintMask_any (x y : Int) (f : Nat → B4) (ao : Option Addr) (n cp : Nat) (hn : n ≤ 1048576) (hao : ao = none → cp = 0)
    (a b c d : Int) (g : Nat → Int) (mo : Option Addr) (m mc : Nat) (hm : m ≤ 1048576) (pk pr pg pb pa pr2 pg2 pb2 pa2 pfx pfy ptx pty : Int) (mode fade : Int) (w : World) (P : ∀ i, i < n → ClAt w ao i (f i)) (Q : ∀ i, i < m → IntAt w mo i (g i)) :
    Calls Try.prog 31 #[.agg #[.int .i64 x, .int .i64 y, .slice ao n cp], .agg #[.int .i64 a, .int .i64 b, .int .i64 c, .int .i64 d, .slice mo m mc], .agg #[.int .i64 pk, .int .i64 pr, .int .i64 pg, .int .i64 pb, .int .i64 pa, .int .i64 pr2, .int .i64 pg2, .int .i64 pb2, .int .i64 pa2, .int .i64 pfx, .int .i64 pfy, .int .i64 ptx, .int .i64 pty], .int .i64 mode, .int .i64 fade] w fun r w' => SurfRes w r w' x y n (paintOn ⟨pk, ⟨pr, pg, pb, pa⟩, ⟨pr2, pg2, pb2, pa2⟩, pfx, pfy, ptx, pty⟩ a b c d m g mode fade x y n f) := by
  have EC := hide (fun u => specL14Copy_any x y f ao n cp hn hao u)
  have ES := hide (fun u => specSurfaceOk_any x y f ao n cp hn u)
  have EM := hide (fun u => specMaskOk_any a b c d g mo m mc hm u)
  have EP := hide (specPaintOk_any pk pr pg pb pa pr2 pg2 pb2 pa2 pfx pfy ptx pty)
  have EB := hide (fun u px py hM => specL11Bits_any a b c d g mo m mc hm px py u hM)
  have EA := hide (fun px py => specColorAt_any pk pr pg pb pa pr2 pg2 pb2 pa2 pfx pfy ptx pty px py)
  replace P := hide P
  replace Q := hide Q
  have hF : Hid (paintOn ⟨pk, ⟨pr, pg, pb, pa⟩, ⟨pr2, pg2, pb2, pa2⟩, pfx, pfy, ptx, pty⟩ a b c d m g mode fade x y n f = if surfOkB x y n f = true ∧ maskOkB a b c d m g = true ∧ paintOkB ⟨pk, ⟨pr, pg, pb, pa⟩, ⟨pr2, pg2, pb2, pa2⟩, pfx, pfy, ptx, pty⟩ = true then paintC ⟨pk, ⟨pr, pg, pb, pa⟩, ⟨pr2, pg2, pb2, pa2⟩, pfx, pfy, ptx, pty⟩ a b c d g mode fade x f else f) := rfl
  have hS : Hid (surfOkB x y n f = true → SOk x y n f) := fun h => surfOk_iff.1 h
  have hM : Hid (maskOkB a b c d m g = true → MOk a b c d m g) := fun h => maskOk_iff.1 h
  generalize paintOn ⟨pk, ⟨pr, pg, pb, pa⟩, ⟨pr2, pg2, pb2, pa2⟩, pfx, pfy, ptx, pty⟩ a b c d m g mode fade x y n f = F at hF ⊢
  generalize surfOkB x y n f = X1 at ES hF hS
  generalize maskOkB a b c d m g = X2 at EM hF hM
  generalize paintOkB ⟨pk, ⟨pr, pg, pb, pa⟩, ⟨pr2, pg2, pb2, pa2⟩, pfx, pfy, ptx, pty⟩ = X3 at EP hF
  unfold SurfRes
  go_enter Try.func31, Try.ntmps31
  go_upto_region 1 with fail
  have R5 := hide (al4_0 w (.cells #[.int .i64 x, .int .i64 y, .slice ao n cp] 26) (.cells #[.int .i64 a, .int .i64 b, .int .i64 c, .int .i64 d, .slice mo m mc] 55) (.cells #[.int .i64 pk, .int .i64 pr, .int .i64 pg, .int .i64 pb, .int .i64 pa, .int .i64 pr2, .int .i64 pg2, .int .i64 pb2, .int .i64 pa2, .int .i64 pfx, .int .i64 pfy, .int .i64 ptx, .int .i64 pty] 60) (.cells #[.int .i64 0, .int .i64 0, .slice none 0 0] 26))
  have R6 := hide (al4_1 w (.cells #[.int .i64 x, .int .i64 y, .slice ao n cp] 26) (.cells #[.int .i64 a, .int .i64 b, .int .i64 c, .int .i64 d, .slice mo m mc] 55) (.cells #[.int .i64 pk, .int .i64 pr, .int .i64 pg, .int .i64 pb, .int .i64 pa, .int .i64 pr2, .int .i64 pg2, .int .i64 pb2, .int .i64 pa2, .int .i64 pfx, .int .i64 pfy, .int .i64 ptx, .int .i64 pty] 60) (.cells #[.int .i64 0, .int .i64 0, .slice none 0 0] 26))
  have R7 := hide (al4_2 w (.cells #[.int .i64 x, .int .i64 y, .slice ao n cp] 26) (.cells #[.int .i64 a, .int .i64 b, .int .i64 c, .int .i64 d, .slice mo m mc] 55) (.cells #[.int .i64 pk, .int .i64 pr, .int .i64 pg, .int .i64 pb, .int .i64 pa, .int .i64 pr2, .int .i64 pg2, .int .i64 pb2, .int .i64 pa2, .int .i64 pfx, .int .i64 pfy, .int .i64 ptx, .int .i64 pty] 60) (.cells #[.int .i64 0, .int .i64 0, .slice none 0 0] 26))
  have R10 := hide (al4_3 w (.cells #[.int .i64 x, .int .i64 y, .slice ao n cp] 26) (.cells #[.int .i64 a, .int .i64 b, .int .i64 c, .int .i64 d, .slice mo m mc] 55) (.cells #[.int .i64 pk, .int .i64 pr, .int .i64 pg, .int .i64 pb, .int .i64 pa, .int .i64 pr2, .int .i64 pg2, .int .i64 pb2, .int .i64 pa2, .int .i64 pfx, .int .i64 pfy, .int .i64 ptx, .int .i64 pty] 60) (.cells #[.int .i64 0, .int .i64 0, .slice none 0 0] 26))
  have HB := hide (al4_below w (.cells #[.int .i64 x, .int .i64 y, .slice ao n cp] 26) (.cells #[.int .i64 a, .int .i64 b, .int .i64 c, .int .i64 d, .slice mo m mc] 55) (.cells #[.int .i64 pk, .int .i64 pr, .int .i64 pg, .int .i64 pb, .int .i64 pa, .int .i64 pr2, .int .i64 pg2, .int .i64 pb2, .int .i64 pa2, .int .i64 pfx, .int .i64 pfy, .int .i64 ptx, .int .i64 pty] 60) (.cells #[.int .i64 0, .int .i64 0, .slice none 0 0] 26))
  obtain ⟨b10, hb10⟩ : ∃ b, Hid (b = w.heap.size + 1 + 1 + 1) := ⟨_, rfl⟩
  obtain ⟨b7, hb7⟩ : ∃ b, Hid (b = w.heap.size + 1 + 1) := ⟨_, rfl⟩
  obtain ⟨b6, hb6⟩ : ∃ b, Hid (b = w.heap.size + 1) := ⟨_, rfl⟩
  obtain ⟨b5, hb5⟩ : ∃ b, Hid (b = w.heap.size) := ⟨_, rfl⟩
  have lz : Hid (w.heap.size ≤ b10) := by unfold Hid; rw [unhide hb10]; omega
  rw [← unhide hb10] at R10
  rw [← unhide hb7] at R7
  rw [← unhide hb6] at R6
  rw [← unhide hb5] at R5
  rw [← unhide hb10, ← unhide hb7, ← unhide hb6, ← unhide hb5]
  generalize (((w.alloc (.cells #[.int .i64 x, .int .i64 y, .slice ao n cp] 26)).alloc (.cells #[.int .i64 a, .int .i64 b, .int .i64 c, .int .i64 d, .slice mo m mc] 55)).alloc (.cells #[.int .i64 pk, .int .i64 pr, .int .i64 pg, .int .i64 pb, .int .i64 pa, .int .i64 pr2, .int .i64 pg2, .int .i64 pb2, .int .i64 pa2, .int .i64 pfx, .int .i64 pfy, .int .i64 ptx, .int .i64 pty] 60)).alloc (.cells #[.int .i64 0, .int .i64 0, .slice none 0 0] 26) = W at R5 R6 R7 R10 HB ⊢
  clear hb10 hb7 hb6 hb5
  obtain ⟨p0, p1, p2⟩ := row3 (unhide R5)
  have l0 := hide (show b5 < W.heap.size ∧ b6 < W.heap.size ∧ b7 < W.heap.size ∧ b10 < W.heap.size from ⟨heap_lt (unhide R5), heap_lt (unhide R6), heap_lt (unhide R7), heap_lt (unhide R10)⟩)
  have lW := hide (unhide HB).size
  have E2 := hide (unhide EC W (fun i hi => (unhide P i hi).next (unhide HB)))
  go_wp2_with fail
  go_fit (unhide E2)
  rintro r w1 ⟨gp, gc, rfl, hO, hb⟩
  replace R5 := hide (row_next hb (unhide R5))
  replace R6 := hide (row_next hb (unhide R6))
  replace R7 := hide (row_next hb (unhide R7))
  replace R10 := hide (row_next hb (unhide R10))
  replace HB := hide (below_two (unhide HB) hb)
  clear hb p0 p1 p2 E2
  replace hO := hide hO
  go_upto_region 2 with fail
  have R11 := hide (new_row w1 (.cells #[.int .i64 x, .int .i64 y, .slice gp n gc] 26))
  replace R5 := hide (row_next (al1_below w1 (.cells #[.int .i64 x, .int .i64 y, .slice gp n gc] 26)) (unhide R5))
  replace R6 := hide (row_next (al1_below w1 (.cells #[.int .i64 x, .int .i64 y, .slice gp n gc] 26)) (unhide R6))
  replace R7 := hide (row_next (al1_below w1 (.cells #[.int .i64 x, .int .i64 y, .slice gp n gc] 26)) (unhide R7))
  replace R10 := hide (row_next (al1_below w1 (.cells #[.int .i64 x, .int .i64 y, .slice gp n gc] 26)) (unhide R10))
  replace HB := hide (below_two (unhide HB) (al1_below w1 (.cells #[.int .i64 x, .int .i64 y, .slice gp n gc] 26)))
  have l1 := hide (show ∀ k, (Value.slice gp n gc).ownBlock = some k → W.heap.size ≤ k ∧ k < w1.heap.size from (unhide hO).lt)
  replace hO := hide ((unhide hO).next (al1_below w1 (.cells #[.int .i64 x, .int .i64 y, .slice gp n gc] 26)))
  generalize w1.alloc (.cells #[.int .i64 x, .int .i64 y, .slice gp n gc] 26) = W1 at R5 R6 R7 R10 R11 HB hO ⊢
  generalize w1.heap.size = b11 at R11 l1 ⊢
  obtain ⟨p0, p1, p2⟩ := row3 (unhide R5)
  have E2 := hide (unhide ES W1 (fun i hi => (unhide P i hi).next (unhide HB)))
  go_wp2_with fail
  go_fit (unhide E2)
  rintro r w2 ⟨rfl, hb⟩
  replace R5 := hide (row_next hb (unhide R5))
  replace R6 := hide (row_next hb (unhide R6))
  replace R7 := hide (row_next hb (unhide R7))
  replace R10 := hide (row_next hb (unhide R10))
  replace R11 := hide (row_next hb (unhide R11))
  replace HB := hide (below_two (unhide HB) hb)
  replace hO := hide ((unhide hO).next hb)
  clear hb p0 p1 p2 E2
  cases X1 with
  | false =>
    have hFn := hide (show F = f by rw [unhide hF, if_neg (by rintro ⟨h, _⟩; cases h)])
    obtain ⟨e0, e1, e2⟩ := row3 (unhide R10)
    obtain ⟨f0, f1, f2⟩ := frozen3 (unhide R10)
    obtain ⟨q0, q1, q2⟩ := row3 (unhide R11)
    go_wp2_with fail
    refine bodyPost_ret (v := .agg #[.int .i64 x, .int .i64 y, .slice gp n gc]) (by simp [results, Try.results31, go_sem, e0, e1, e2]) rfl ⟨gp, gc, rfl, ?_, below_put3 (unhide HB) (unhide lz) _ _ _⟩
    obtain ⟨xs, o1, hx1⟩ := unhide hO
    rw [unhide hFn]
    exact ⟨xs, own_low (own_put3 o1 (fun k hk => by have := (unhide l1 k hk).1; have := unhide l0; omega) _ _ _) (unhide lW), hx1⟩
  | true =>
  obtain ⟨p0, p1, p2, p3, p4⟩ := row5m (unhide R6)
  have E2 := hide (unhide EM w2 (fun i hi => (unhide Q i hi).next (unhide HB)))
  go_wp2_with fail
  go_fit (unhide E2)
  rintro r w3 ⟨rfl, hb⟩
  replace R5 := hide (row_next hb (unhide R5))
  replace R6 := hide (row_next hb (unhide R6))
  replace R7 := hide (row_next hb (unhide R7))
  replace R10 := hide (row_next hb (unhide R10))
  replace R11 := hide (row_next hb (unhide R11))
  replace HB := hide (below_two (unhide HB) hb)
  replace hO := hide ((unhide hO).next hb)
  clear hb p0 p1 p2 p3 p4 E2
  cases X2 with
  | false =>
    have hFn := hide (show F = f by rw [unhide hF, if_neg (by rintro ⟨_, h, _⟩; cases h)])
    obtain ⟨e0, e1, e2⟩ := row3 (unhide R10)
    obtain ⟨f0, f1, f2⟩ := frozen3 (unhide R10)
    obtain ⟨q0, q1, q2⟩ := row3 (unhide R11)
    go_wp2_with fail
    refine bodyPost_ret (v := .agg #[.int .i64 x, .int .i64 y, .slice gp n gc]) (by simp [results, Try.results31, go_sem, e0, e1, e2]) rfl ⟨gp, gc, rfl, ?_, below_put3 (unhide HB) (unhide lz) _ _ _⟩
    obtain ⟨xs, o1, hx1⟩ := unhide hO
    rw [unhide hFn]
    exact ⟨xs, own_low (own_put3 o1 (fun k hk => by have := (unhide l1 k hk).1; have := unhide l0; omega) _ _ _) (unhide lW), hx1⟩
  | true =>
  obtain ⟨p0, p1, p2, p3, p4, p5, p6, p7, p8, p9, p10, p11, p12⟩ := row13 (unhide R7)
  go_wp2_with fail
  go_fit (unhide EP _)
  rintro r w4 ⟨rfl, hb⟩
  replace R5 := hide (row_next hb (unhide R5))
  replace R6 := hide (row_next hb (unhide R6))
  replace R7 := hide (row_next hb (unhide R7))
  replace R10 := hide (row_next hb (unhide R10))
  replace R11 := hide (row_next hb (unhide R11))
  replace HB := hide (below_two (unhide HB) hb)
  replace hO := hide ((unhide hO).next hb)
  clear hb p0 p1 p2 p3 p4 p5 p6 p7 p8 p9 p10 p11 p12
  cases X3 with
  | false =>
    have hFn := hide (show F = f by rw [unhide hF, if_neg (by rintro ⟨_, _, h⟩; cases h)])
    obtain ⟨e0, e1, e2⟩ := row3 (unhide R10)
    obtain ⟨f0, f1, f2⟩ := frozen3 (unhide R10)
    obtain ⟨q0, q1, q2⟩ := row3 (unhide R11)
    go_wp2_with fail
    refine bodyPost_ret (v := .agg #[.int .i64 x, .int .i64 y, .slice gp n gc]) (by simp [results, Try.results31, go_sem, e0, e1, e2]) rfl ⟨gp, gc, rfl, ?_, below_put3 (unhide HB) (unhide lz) _ _ _⟩
    obtain ⟨xs, o1, hx1⟩ := unhide hO
    rw [unhide hFn]
    exact ⟨xs, own_low (own_put3 o1 (fun k hk => by have := (unhide l1 k hk).1; have := unhide l0; omega) _ _ _) (unhide lW), hx1⟩
  | true =>
  have sok := unhide hS (by trivial)
  have mok := hide (unhide hM (by trivial))
  have hFy := hide (show F = paintC ⟨pk, ⟨pr, pg, pb, pa⟩, ⟨pr2, pg2, pb2, pa2⟩, pfx, pfy, ptx, pty⟩ a b c d g mode fade x f by rw [unhide hF, if_pos ⟨by trivial, by trivial, by trivial⟩])
  clear hF hS hM EP EM ES EC
  have sle := sok.le
  obtain ⟨sx, sy, sn, slaid⟩ := sok
  replace slaid := hide slaid
  have hpos : ∃ gb, gp = some ⟨gb, 0, none⟩ := by
    obtain ⟨xs, o1, _⟩ := unhide hO
    obtain ⟨gb, cap, e, _⟩ := own_at o1 (by omega)
    cases e
    exact ⟨gb, rfl⟩
  obtain ⟨gb, rfl⟩ := hpos
  have lg := hide (show W.heap.size ≤ gb ∧ gb < b11 from unhide l1 gb rfl)
  clear l1
  replace sn := hide sn
  obtain ⟨G, hG⟩ : ∃ G, Hid (paintC ⟨pk, ⟨pr, pg, pb, pa⟩, ⟨pr2, pg2, pb2, pa2⟩, pfx, pfy, ptx, pty⟩ a b c d g mode fade x f = G) := ⟨_, rfl⟩
  have hGk : Hid (∀ k : Nat, G k = inkC ⟨pk, ⟨pr, pg, pb, pa⟩, ⟨pr2, pg2, pb2, pa2⟩, pfx, pfy, ptx, pty⟩ mode fade (atI a b c d g ((k : Int) % x) ((k : Int) / x)) ((k : Int) % x) ((k : Int) / x) (f k)) := fun k => by rw [← unhide hG]; rfl
  rw [unhide hG] at hFy
  clear hG
  have hO0 := hide (show ColsV w4 W.heap.size (.slice (some ⟨gb, 0, none⟩) n gc) n (upTo G f 0) by rw [upTo_none]; exact unhide hO)
  go_upto_region 4 with fail
  go_wp2_with fail
  go_loopw [12] (fun i u => ∃ (j k : Nat), (j : Int) ≤ y ∧ i = .int .i64 j ∧ Hid ((k : Int) = (j : Int) * x) ∧ Hid (u.heap[b5]? = some (.cells #[.int .i64 x, .int .i64 y, .slice ao n cp] 26 (0, 0))) ∧ Hid (u.heap[b6]? = some (.cells #[.int .i64 a, .int .i64 b, .int .i64 c, .int .i64 d, .slice mo m mc] 55 (0, 0))) ∧ Hid (u.heap[b7]? = some (.cells #[.int .i64 pk, .int .i64 pr, .int .i64 pg, .int .i64 pb, .int .i64 pa, .int .i64 pr2, .int .i64 pg2, .int .i64 pb2, .int .i64 pa2, .int .i64 pfx, .int .i64 pfy, .int .i64 ptx, .int .i64 pty] 60 (0, 0))) ∧ Hid (u.heap[b10]? = some (.cells #[.int .i64 0, .int .i64 0, .slice none 0 0] 26 (0, 0))) ∧ Hid (u.heap[b11]? = some (.cells #[.int .i64 x, .int .i64 y, .slice (some ⟨gb, 0, none⟩) n gc] 26 (0, 0))) ∧ Hid (Below w.heap.size w u) ∧ Hid (ColsV u W.heap.size (.slice (some ⟨gb, 0, none⟩) n gc) n (upTo G f k))) (fun i _ => y.toNat - (intOf i).toNat)
  case atStart => exact ⟨0, 0, by omega, rfl, by show ((0 : Nat) : Int) = ((0 : Nat) : Int) * x; omega, R5, R6, R7, R10, R11, HB, hO0⟩
  case round =>
    clear R5 R6 R7 R10 R11 HB hO hO0
    obtain ⟨j, k0, hj, rfl, hk0, R5, R6, R7, R10, R11, HB, hO⟩ := hrel
    obtain ⟨p0, p1, p2⟩ := row3 (unhide R5)
    by_cases hlt : (j : Int) < y
    · go_upto_region 7 with fail
      clear p0 p1 p2
      go_wp2_with fail
      go_loopw [13] (fun i u => ∃ (q k : Nat), (q : Int) ≤ x ∧ i = .int .i64 q ∧ Hid ((k : Int) = (j : Int) * x + (q : Int)) ∧ Hid (u.heap[b5]? = some (.cells #[.int .i64 x, .int .i64 y, .slice ao n cp] 26 (0, 0))) ∧ Hid (u.heap[b6]? = some (.cells #[.int .i64 a, .int .i64 b, .int .i64 c, .int .i64 d, .slice mo m mc] 55 (0, 0))) ∧ Hid (u.heap[b7]? = some (.cells #[.int .i64 pk, .int .i64 pr, .int .i64 pg, .int .i64 pb, .int .i64 pa, .int .i64 pr2, .int .i64 pg2, .int .i64 pb2, .int .i64 pa2, .int .i64 pfx, .int .i64 pfy, .int .i64 ptx, .int .i64 pty] 60 (0, 0))) ∧ Hid (u.heap[b10]? = some (.cells #[.int .i64 0, .int .i64 0, .slice none 0 0] 26 (0, 0))) ∧ Hid (u.heap[b11]? = some (.cells #[.int .i64 x, .int .i64 y, .slice (some ⟨gb, 0, none⟩) n gc] 26 (0, 0))) ∧ Hid (Below w.heap.size w u) ∧ Hid (ColsV u W.heap.size (.slice (some ⟨gb, 0, none⟩) n gc) n (upTo G f k))) (fun i _ => x.toNat - (intOf i).toNat)
      case atStart => exact ⟨0, k0, by omega, rfl, by have := unhide hk0; show (k0 : Int) = _ + ((0 : Nat) : Int); omega, R5, R6, R7, R10, R11, HB, hO⟩
      case round =>
        clear R5 R6 R7 R10 R11 HB hO hk0 k0
        obtain ⟨q, k, hq, rfl, hkk, R5, R6, R7, R10, R11, HB, hO⟩ := hrel
        by_cases hqx : (q : Int) < x
        · have hplace := pix_place (y := y) sx.1 (show (0 : Int) ≤ q by omega) (show (q : Int) ≤ x - 1 by omega) (show (0 : Int) ≤ j by omega) (show (j : Int) ≤ y - 1 by omega)
          have hkn : k < n := by have := unhide hkk; have := unhide sn; omega
          have hback := sq_back (x := x) (px := q) (py := j) sx.1 (by omega) hqx
          have v1 : IntKind.i64.wrap ((j : Int) * x) = (j : Int) * x := IntWalk.i64_in _ (by have := unhide sn; omega)
          have v2 : IntKind.i64.wrap ((j : Int) * x + (q : Int)) = (k : Int) := by rw [unhide hkk]; exact IntWalk.i64_in _ (by have := unhide sn; omega)
          have hGq := hide (unhide hGk k)
          rw [show (k : Int) % x = q by rw [unhide hkk]; exact hback.1, show (k : Int) / x = j by rw [unhide hkk]; exact hback.2] at hGq
          clear hback hplace
          have hkk' := hide (show ((k + 1 : Nat) : Int) = (j : Int) * x + ((q + 1 : Nat) : Int) by have := unhide hkk; omega)
          clear hkk
          have vq : IntKind.i64.wrap ((q : Int) + 1) = (q : Int) + 1 := IntWalk.i64_in _ (by omega)
          have EB1 := hide (unhide EB wr q j (fun i hi => (unhide Q i hi).next (unhide HB)) (unhide mok))
          generalize atI a b c d g q j = bits at EB1 hGq
          obtain ⟨p0, p1, p2⟩ := row3 (unhide R5)
          obtain ⟨m0, m1, m2, m3, m4⟩ := row5m (unhide R6)
          go_wp2_with fail
          go_fit (unhide EB1)
          rintro r w5 ⟨rfl, hb⟩
          replace R5 := hide (row_next hb (unhide R5))
          replace R6 := hide (row_next hb (unhide R6))
          replace R7 := hide (row_next hb (unhide R7))
          replace R10 := hide (row_next hb (unhide R10))
          replace R11 := hide (row_next hb (unhide R11))
          replace HB := hide (below_two (unhide HB) hb)
          replace hO := hide ((unhide hO).next hb)
          clear hb p0 p1 p2 m0 m1 m2 m3 m4 EB1
          by_cases hbits : bits = 0
          · have hsame : Hid (ColsV w5 W.heap.size (.slice (some ⟨gb, 0, none⟩) n gc) n (upTo G f (k + 1))) := by
              unfold Hid
              rw [upTo_same (by rw [unhide hGq]; unfold inkC; rw [if_pos hbits])]
              exact unhide hO
            subst hbits
            clear hGq hO
            go_wp2_with fail
            go_roundw
            case rel => exact ⟨q + 1, k + 1, by omega, by go_num, hkk', R5, R6, R7, R10, R11, HB, hsame⟩
            case measure => simp [intOf]; omega
          · have hbb : (bits == 0) = false := beq_eq_false_iff_ne.2 hbits
            have hGb := hide (show G k = blendC mode (fadeC (thinC (colorAtC ⟨pk, ⟨pr, pg, pb, pa⟩, ⟨pr2, pg2, pb2, pa2⟩, pfx, pfy, ptx, pty⟩ q j) (countI bits)) fade) (f k) by rw [unhide hGq]; unfold inkC; rw [if_neg hbits])
            clear hGq
            have EA1 := hide (unhide EA q j)
            have EN1 := hide (specCountOf_any bits)
            generalize colorAtC ⟨pk, ⟨pr, pg, pb, pa⟩, ⟨pr2, pg2, pb2, pa2⟩, pfx, pfy, ptx, pty⟩ q j = C at EA1 hGb
            generalize countI bits = cnt at EN1 hGb
            obtain ⟨C0, C1, C2, C3⟩ := C
            dsimp only at EA1
            have ET1 := hide (specThin_any C0 C1 C2 C3 cnt)
            generalize thinC ⟨C0, C1, C2, C3⟩ cnt = T at ET1 hGb
            obtain ⟨T0, T1, T2, T3⟩ := T
            dsimp only at ET1
            have EF1 := hide (specFade_any T0 T1 T2 T3 fade)
            generalize fadeC ⟨T0, T1, T2, T3⟩ fade = D at EF1 hGb
            obtain ⟨D0, D1, D2, D3⟩ := D
            dsimp only at EF1
            obtain ⟨s0, s1, s2, s3, s4, s5, s6, s7, s8, s9, s10, s11, s12⟩ := row13 (unhide R7)
            go_wp2_with fail
            go_fit (unhide EA1 _)
            rintro r w6 ⟨rfl, hb⟩
            replace R5 := hide (row_next hb (unhide R5))
            replace R6 := hide (row_next hb (unhide R6))
            replace R7 := hide (row_next hb (unhide R7))
            replace R10 := hide (row_next hb (unhide R10))
            replace R11 := hide (row_next hb (unhide R11))
            replace HB := hide (below_two (unhide HB) hb)
            replace hO := hide ((unhide hO).next hb)
            clear hb s0 s1 s2 s3 s4 s5 s6 s7 s8 s9 s10 s11 s12
            go_wp2_with fail
            go_fit (unhide EN1 _)
            rintro r u1 ⟨rfl, hu⟩
            rw [hu]
            clear hu u1
            go_wp2_with fail
            go_fit (unhide ET1 _)
            rintro r w7 ⟨rfl, hb⟩
            replace R5 := hide (row_next hb (unhide R5))
            replace R6 := hide (row_next hb (unhide R6))
            replace R7 := hide (row_next hb (unhide R7))
            replace R10 := hide (row_next hb (unhide R10))
            replace R11 := hide (row_next hb (unhide R11))
            replace HB := hide (below_two (unhide HB) hb)
            replace hO := hide ((unhide hO).next hb)
            clear hb
            go_wp2_with fail
            go_fit (unhide EF1 _)
            rintro r w8 ⟨rfl, hb⟩
            replace R5 := hide (row_next hb (unhide R5))
            replace R6 := hide (row_next hb (unhide R6))
            replace R7 := hide (row_next hb (unhide R7))
            replace R10 := hide (row_next hb (unhide R10))
            replace R11 := hide (row_next hb (unhide R11))
            replace HB := hide (below_two (unhide HB) hb)
            replace hO := hide ((unhide hO).next hb)
            clear hb EA1 EN1 ET1 EF1
            go_upto_region 13 with fail
            have R15 := hide (new_row w8 (.cells #[.int .i64 D0, .int .i64 D1, .int .i64 D2, .int .i64 D3] 42))
            replace R5 := hide (row_next (al1_below w8 (.cells #[.int .i64 D0, .int .i64 D1, .int .i64 D2, .int .i64 D3] 42)) (unhide R5))
            replace R6 := hide (row_next (al1_below w8 (.cells #[.int .i64 D0, .int .i64 D1, .int .i64 D2, .int .i64 D3] 42)) (unhide R6))
            replace R7 := hide (row_next (al1_below w8 (.cells #[.int .i64 D0, .int .i64 D1, .int .i64 D2, .int .i64 D3] 42)) (unhide R7))
            replace R10 := hide (row_next (al1_below w8 (.cells #[.int .i64 D0, .int .i64 D1, .int .i64 D2, .int .i64 D3] 42)) (unhide R10))
            replace R11 := hide (row_next (al1_below w8 (.cells #[.int .i64 D0, .int .i64 D1, .int .i64 D2, .int .i64 D3] 42)) (unhide R11))
            replace HB := hide (below_two (unhide HB) (al1_below w8 (.cells #[.int .i64 D0, .int .i64 D1, .int .i64 D2, .int .i64 D3] 42)))
            replace hO := hide ((unhide hO).next (al1_below w8 (.cells #[.int .i64 D0, .int .i64 D1, .int .i64 D2, .int .i64 D3] 42)))
            have l15 := hide (show gb < w8.heap.size by
              obtain ⟨xs, o1, _⟩ := unhide hO
              have h1 := (o1.lt gb rfl).2
              have h2 := unhide lg
              have h3 := heap_lt (unhide R11)
              have h4 := heap_lt (unhide R15)
              simp at h1 h3
              omega)
            generalize w8.alloc (.cells #[.int .i64 D0, .int .i64 D1, .int .i64 D2, .int .i64 D3] 42) = W8 at R5 R6 R7 R10 R11 R15 HB hO ⊢
            generalize w8.heap.size = b15 at R15 l15 ⊢
            have HP0 := unhide P k hkn
            have HP := HP0.next (unhide HB)
            obtain ⟨zz, hzz⟩ : ∃ zz, Hid (f k = zz) := ⟨_, rfl⟩
            rw [unhide hzz] at HP HP0
            obtain ⟨z0, z1, z2, z3⟩ := zz
            obtain ⟨s0, o0, rfl, g0, g1, g2, g3⟩ := HP
            obtain ⟨s0', o0', ee, g0', _⟩ := HP0
            cases ee
            have ls0 := hide (show s0 < w.heap.size from block_lt_of_cell g0')
            clear g0'
            dsimp only at g0 g1 g2 g3
            replace g0 := hide g0
            replace g1 := hide g1
            replace g2 := hide g2
            replace g3 := hide g3
            have EBL := hide (specBlend_any mode D0 D1 D2 D3 z0 z1 z2 z3)
            rw [unhide hzz] at hGb
            generalize blendC mode ⟨D0, D1, D2, D3⟩ ⟨z0, z1, z2, z3⟩ = BB at EBL hGb
            obtain ⟨B0, B1, B2, B3⟩ := BB
            dsimp only at EBL
            have hkn' : (k : Int) < (n : Int) := by omega
            have hkn0 : ¬ (k : Int) < 0 := by omega
            have k0 := hide (show ∀ u, W8.grownBy u (some gb) → (u.cell? ⟨b11, 2, none⟩ = some (.slice (some ⟨gb, 0, none⟩) n gc) ∧ u.cell? ⟨b5, 0, none⟩ = some (.int .i64 x) ∧ u.cell? ⟨b5, 2, none⟩ = some (.slice (some ⟨s0, o0, none⟩) n cp) ∧ u.cell? ⟨b15, 0, none⟩ = some (.int .i64 D0) ∧ u.cell? ⟨b15, 1, none⟩ = some (.int .i64 D1) ∧ u.cell? ⟨b15, 2, none⟩ = some (.int .i64 D2) ∧ u.cell? ⟨b15, 3, none⟩ = some (.int .i64 D3) ∧ u.cell? ⟨s0, o0 + k * 4, none⟩ = some (.int .i64 z0) ∧ u.cell? ⟨s0, o0 + k * 4 + 1, none⟩ = some (.int .i64 z1) ∧ u.cell? ⟨s0, o0 + k * 4 + 2, none⟩ = some (.int .i64 z2) ∧ u.cell? ⟨s0, o0 + k * 4 + 3, none⟩ = some (.int .i64 z3) ∧ W8.grownBy u (some gb)) from fun u h => by
              obtain ⟨p0, p1, p2⟩ := row3 (row_grown h (by have := unhide l0; have := unhide lg; omega) (unhide R5))
              obtain ⟨r0, r1, r2⟩ := row3 (row_grown h (by have := unhide lg; omega) (unhide R11))
              obtain ⟨d0, d1, d2, d3⟩ := row4 (row_grown h (by have := unhide l15; omega) (unhide R15))
              have hs : s0 ≠ gb := by have := unhide ls0; have := unhide lg; have := unhide lW; omega
              exact ⟨r2, p0, p2, d0, d1, d2, d3, cell_grown h hs (unhide g0), cell_grown h hs (unhide g1), cell_grown h hs (unhide g2), cell_grown h hs (unhide g3), h⟩)
            have k00 := hide (unhide k0 _ (show W8.grownBy W8.drew (some gb) from ⟨rfl, rfl, rfl, Nat.le_refl _, fun _ _ _ => rfl⟩))
            go_region_held3 (fun u => u.cell? ⟨b11, 2, none⟩ = some (.slice (some ⟨gb, 0, none⟩) n gc) ∧ u.cell? ⟨b5, 0, none⟩ = some (.int .i64 x) ∧ u.cell? ⟨b5, 2, none⟩ = some (.slice (some ⟨s0, o0, none⟩) n cp) ∧ u.cell? ⟨b15, 0, none⟩ = some (.int .i64 D0) ∧ u.cell? ⟨b15, 1, none⟩ = some (.int .i64 D1) ∧ u.cell? ⟨b15, 2, none⟩ = some (.int .i64 D2) ∧ u.cell? ⟨b15, 3, none⟩ = some (.int .i64 D3) ∧ u.cell? ⟨s0, o0 + k * 4, none⟩ = some (.int .i64 z0) ∧ u.cell? ⟨s0, o0 + k * 4 + 1, none⟩ = some (.int .i64 z1) ∧ u.cell? ⟨s0, o0 + k * 4 + 2, none⟩ = some (.int .i64 z2) ∧ u.cell? ⟨s0, o0 + k * 4 + 3, none⟩ = some (.int .i64 z3) ∧ W8.grownBy u (some gb)) ((first | with_reducible exact unhide k00 | (with_reducible refine unhide k0 _ ?_; first | with_reducible assumption | (with_reducible refine grown_put4 ?_ _ _ _ _ _ _ _ _; with_reducible assumption)))) (first | (go_at_call 28; go_fit (unhide EBL _); rintro r w9 ⟨rfl, hb9⟩; have h9 := below_undrew hb9; clear hb9; have hg9 := grown_of_below h9 (some gb); obtain ⟨xs9, o9, x9⟩ := (unhide hO).next h9; obtain ⟨y0, y1, y2, y3, t0, t1, t2, t3⟩ := own_cell4 o9 hkn; have f0 := o9.frozenAt (k * 4); have f1 := o9.frozenAt (k * 4 + 1); have f2 := o9.frozenAt (k * 4 + 2); have f3 := o9.frozenAt (k * 4 + 3); replace o9 := hide o9; replace x9 := hide x9))
            all_goals
              go_wp2_with fail
              go_roundw
              case rel =>
                have hgg := grown_put4 hg9 (k * 4) (k * 4 + 1) (k * 4 + 2) (k * 4 + 3) (.int .i64 B0) (.int .i64 B1) (.int .i64 B2) (.int .i64 B3)
                have n5 : b5 ≠ gb ∧ b6 ≠ gb ∧ b7 ≠ gb ∧ b10 ≠ gb ∧ b11 ≠ gb := by have := unhide l0; have := unhide lg; omega
                refine ⟨q + 1, k + 1, by omega, by go_num, hkk', row_grown hgg n5.1 (unhide R5), row_grown hgg n5.2.1 (unhide R6), row_grown hgg n5.2.2.1 (unhide R7), row_grown hgg n5.2.2.2.1 (unhide R10), row_grown hgg n5.2.2.2.2 (unhide R11), below_at4 (below_two (unhide HB) h9) (by have := unhide lg; have := unhide lW; omega) _ _ _ _ _ _ _ _, ?_⟩
                refine ⟨_, own_put4 (unhide o9) _ _ _ _, ?_⟩
                rw [upTo_step, unhide hGb]
                exact bx_put (unhide x9) (unhide o9).1 hkn ⟨B0, B1, B2, B3⟩
              case measure => simp [intOf]; omega
        · have hqe : (q : Int) = x := by omega
          have hk1 := hide (show (k : Int) = ((j + 1 : Nat) : Int) * x by have := unhide hkk; rw [this, hqe]; rw [show ((j + 1 : Nat) : Int) = (j : Int) + 1 by omega, Int.add_mul, Int.one_mul])
          clear hkk
          have vj : IntKind.i64.wrap ((j : Int) + 1) = (j : Int) + 1 := IntWalk.i64_in _ (by omega)
          obtain ⟨p0, p1, p2⟩ := row3 (unhide R5)
          go_wp2_with fail
          go_roundw
          case rel => exact ⟨j + 1, k, by omega, by go_num, hk1, R5, R6, R7, R10, R11, HB, hO⟩
          case measure => simp [intOf]; omega
    · have hje : (j : Int) = y := by omega
      have hkn := hide (show k0 = n by have h1 := unhide hk0; have h2 := unhide sn; rw [hje, Int.mul_comm] at h1; omega)
      obtain ⟨e0, e1, e2⟩ := row3 (unhide R10)
      obtain ⟨f0, f1, f2⟩ := frozen3 (unhide R10)
      obtain ⟨q0, q1, q2⟩ := row3 (unhide R11)
      go_wp2_with fail
      refine bodyPost_ret (v := .agg #[.int .i64 x, .int .i64 y, .slice (some ⟨gb, 0, none⟩) n gc]) (by simp [results, Try.results31, go_sem, e0, e1, e2]) rfl ⟨_, gc, rfl, ?_, below_put3 (unhide HB) (unhide lz) _ _ _⟩
      obtain ⟨xs, o1, hx1⟩ := unhide hO
      rw [unhide hkn] at hx1
      rw [unhide hFy]
      exact ⟨xs, own_low (own_put3 o1 (fun k hk => by have e : gb = k := Option.some.inj hk; have := unhide lg; have := unhide l0; omega) _ _ _) (unhide lW), fun i hi => by have := hx1 i hi; rw [upTo_all hi] at this; exact this⟩
end Go.Proofs.Ythelfgippiimiac

/-
  Lists of colours that calls own, while others are marked.
-/
namespace Go.Proofs.Ythelfgippiimiac
open Go.RowKit
set_option linter.unusedVariables false

theorem apart_bc {u v : Value} {a b c d : Nat} (h1 : ∀ k, u.ownBlock = some k → a ≤ k ∧ k < b) (h2 : ∀ k, v.ownBlock = some k → c ≤ k ∧ k < d) (h : b ≤ c ∨ d ≤ a) : u.ownBlock = none ∨ u.ownBlock ≠ v.ownBlock := by
  cases hu : u.ownBlock with
  | none => exact .inl rfl
  | some k =>
    refine .inr (fun e => ?_)
    have := h1 k hu
    have := h2 k e.symm
    omega
theorem carry3 {w w1 : World} {b : Nat} (x0 x1 x2 : Value) (t : TypeId) (hb : Below w.heap.size w w1) (h : w.heap[b]? = some (.cells #[x0, x1, x2] t (0, 0))) :
    w1.cell? ⟨b, 0, none⟩ = some x0 ∧ w1.cell? ⟨b, 1, none⟩ = some x1 ∧ w1.cell? ⟨b, 2, none⟩ = some x2 ∧ w1.frozen? ⟨b, 0, none⟩ = false ∧ w1.frozen? ⟨b, 1, none⟩ = false ∧ w1.frozen? ⟨b, 2, none⟩ = false ∧ w1.heap[b]? = some (.cells #[x0, x1, x2] t (0, 0)) ∧ b < w1.heap.size := by
  have h1 := row_next hb h
  obtain ⟨c0, c1, c2⟩ := row3 h1
  obtain ⟨f0, f1, f2⟩ := frozen3 h1
  exact ⟨c0, c1, c2, f0, f1, f2, h1, heap_lt h1⟩
theorem put3_row {u : World} {b : Nat} {x0 x1 x2 y0 y1 y2 : Value} {t : TypeId} (h : u.heap[b]? = some (.cells #[x0, x1, x2] t (0, 0))) : (((u.setCell ⟨b, 0, none⟩ y0).setCell ⟨b, 1, none⟩ y1).setCell ⟨b, 2, none⟩ y2).heap[b]? = some (.cells #[y0, y1, y2] t (0, 0)) := by
  simp [World.setCell, Array.getElem?_modify, h]
theorem ColsV.put3 {w : World} {base n q : Nat} {v : Value} {f : Nat → B4} (h : ColsV w base v n f) (hq : some q ≠ v.ownBlock) {x y z : Value} : ColsV (((w.setCell ⟨q, 0, none⟩ x).setCell ⟨q, 1, none⟩ y).setCell ⟨q, 2, none⟩ z) base v n f :=
  let ⟨xs, h1, h2⟩ := h; ⟨xs, own_put3 h1 (fun k hk e => hq (by rw [hk, e])) x y z, h2⟩
theorem ColsV.notOld {w : World} {base n q : Nat} {v : Value} {f : Nat → B4} (h : ColsV w base v n f) (hq : q < base) : some q ≠ v.ownBlock := fun e => absurd (h.lt _ e.symm).1 (by omega)
theorem ColsV.notNew {w : World} {base n q : Nat} {v : Value} {f : Nat → B4} (h : ColsV w base v n f) (hq : w.heap.size ≤ q) : some q ≠ v.ownBlock := fun e => absurd (h.lt _ e.symm).2 (by omega)
theorem MarkedC.kept {w w' : World} {base n : Nat} {v : Value} {row : Option Nat} (h : MarkedC w base v n) (hg : w.grownBy w' row) (ap : v.ownBlock = none ∨ v.ownBlock ≠ row) : MarkedC w' base v n := let ⟨xs, h1, h2⟩ := h; ⟨xs, h1.kept hg ap, h2⟩
/-- Marked from k on. -/
def MarkedCK (w : World) (base : Nat) (v : Value) (n k : Nat) : Prop := ∃ xs, w.ownsRow base 42 4 v n xs ∧ Ramp xs k (n * 4)
theorem MarkedCK.next {w w' : World} {base n k : Nat} {v : Value} (h : MarkedCK w base v n k) (hb : Below w.heap.size w w') : MarkedCK w' base v n k := let ⟨xs, h1, h2⟩ := h; ⟨xs, own_below h1 hb, h2⟩
theorem MarkedCK.kept {w w' : World} {base n k : Nat} {v : Value} {row : Option Nat} (h : MarkedCK w base v n k) (hg : w.grownBy w' row) (ap : v.ownBlock = none ∨ v.ownBlock ≠ row) : MarkedCK w' base v n k := let ⟨xs, h1, h2⟩ := h; ⟨xs, h1.kept hg ap, h2⟩
theorem new_ltc (w : World) (o : Obj) : w.heap.size < (w.alloc o).heap.size := by simp

end Go.Proofs.Ythelfgippiimiac

/-
  A drawn surface: l14Surface, DrawRightSurface. (By drawsurf.py.)
-/
namespace Go.Proofs.Ythelfgippiimiac
open Go.RowKit
set_option linter.unusedVariables false

/-- A right surface that a call owns. -/
def OneSurf (w : World) (r : Ending) (w' : World) : Prop :=
  ∃ (x y : Int) (p : Option Addr) (n cp : Nat) (f : Nat → B4), r = .returned (.agg #[.int .i64 x, .int .i64 y, .slice p n cp]) ∧ ColsV w' w.heap.size (.slice p n cp) n f ∧ SOk x y n f
/-- The drawn surface under way: its colours lie in block gg. -/
structure LS (w u : World) (g B : Nat) (a : Option Addr) (len cap b2 b3 : Nat) (x y : Int) (gg n ca : Nat) (f : Nat → B4) : Prop where
  ds : DS w u g B a len cap
  zero : u.heap[b2]? = some (.cells #[.int .i64 0, .int .i64 0, .slice none 0 0] 26 (0, 0))
  row : u.heap[b3]? = some (.cells #[.int .i64 x, .int .i64 y, .slice (some ⟨gg, 0, none⟩) n ca] 26 (0, 0))
  own : ColsV u w.heap.size (.slice (some ⟨gg, 0, none⟩) n ca) n f
  ok : SOk x y n f
  lo : w.heap.size ≤ b2 ∧ w.heap.size ≤ b3 ∧ b2 ≠ b3 ∧ gg ≠ b2 ∧ gg ≠ b3
theorem LS.calls {w u : World} {g B : Nat} {a : Option Addr} {len cap b2 b3 : Nat} {x y : Int} {gg n ca : Nat} {f : Nat → B4} {v : World} (h : LS w u g B a len cap b2 b3 x y gg n ca f) (hb : Below u.heap.size u v) : LS w v g B a len cap b2 b3 x y gg n ca f :=
  ⟨h.ds.calls hb, row_next hb h.zero, row_next hb h.row, h.own.next hb, h.ok, h.lo⟩
theorem LS.drew {w u : World} {g B : Nat} {a : Option Addr} {len cap b2 b3 : Nat} {x y : Int} {gg n ca : Nat} {f : Nat → B4} (h : LS w u g B a len cap b2 b3 x y gg n ca f) : LS w u.drew g B a len cap b2 b3 x y gg n ca f := h.calls (Below.refl _ _).drew
theorem cols_draw {w u v : World} {g B : Nat} {a : Option Addr} {len cap n : Nat} {val : Value} {f : Nat → B4} (d : DS w u g B a len cap) (h : ColsV u w.heap.size val n f) (hg : u.grownBy v (some g)) : ColsV v w.heap.size val n f :=
  h.kept hg (.inr (fun e => by have h1 := (h.lt _ e).1; have h2 := d.lt; omega))
theorem ints_draw {w u v : World} {g B : Nat} {a : Option Addr} {len cap n : Nat} {val : Value} {f : Nat → Int} (d : DS w u g B a len cap) (h : IntsV u w.heap.size val n f) (hg : u.grownBy v (some g)) : IntsV v w.heap.size val n f :=
  h.kept hg (.inr (fun e => by have h1 := (h.lt _ e).1; have h2 := d.lt; omega))
theorem LS.draw {w u : World} {g B : Nat} {a : Option Addr} {len cap b2 b3 : Nat} {x y : Int} {gg n ca : Nat} {f : Nat → B4} {v : World} (h : LS w u g B a len cap b2 b3 x y gg n ca f) (hd : DS w v g B a len cap) (hg : u.grownBy v (some g)) : LS w v g B a len cap b2 b3 x y gg n ca f :=
  ⟨hd, h.ds.heap hg h.lo.1 h.zero, h.ds.heap hg h.lo.2.1 h.row, cols_draw h.ds h.own hg, h.ok, h.lo⟩
theorem LS.store {w u : World} {g B : Nat} {a : Option Addr} {len cap b2 b3 : Nat} {x y : Int} {gg n ca : Nat} {f : Nat → B4} {base gg' ca' : Nat} {F : Nat → B4} (h : LS w u g B a len cap b2 b3 x y gg n ca f) (o : ColsV u base (.slice (some ⟨gg', 0, none⟩) n ca') n F) (hw : w.heap.size ≤ base) (h2 : b2 < base) (h3 : b3 < base) (hok : SOk x y n F) :
    LS w (((u.setCell ⟨b3, 0, none⟩ (.int .i64 x)).setCell ⟨b3, 1, none⟩ (.int .i64 y)).setCell ⟨b3, 2, none⟩ (.slice (some ⟨gg', 0, none⟩) n ca')) g B a len cap b2 b3 x y gg' n ca' F := by
  have lo := h.lo
  have hl := (o.lt gg' rfl).1
  exact ⟨((h.ds.put 0 _ lo.2.1).put 1 _ lo.2.1).put 2 _ lo.2.1, setc_other lo.2.2.1 (setc_other lo.2.2.1 (setc_other lo.2.2.1 h.zero)), set3_2 (set3_1 (set3_0 h.row)), (o.low hw).put3 (o.notOld h3), hok, lo.1, lo.2.1, lo.2.2.1, by omega, by omega⟩
theorem LS.res {w u : World} {g B : Nat} {a : Option Addr} {len cap b2 b3 : Nat} {x y : Int} {gg n ca : Nat} {f : Nat → B4} (h : LS w u g B a len cap b2 b3 x y gg n ca f) {v0 v1 v2 : Value} : OneSurf w (.returned (.agg #[.int .i64 x, .int .i64 y, .slice (some ⟨gg, 0, none⟩) n ca])) (((u.setCell ⟨b2, 0, none⟩ v0).setCell ⟨b2, 1, none⟩ v1).setCell ⟨b2, 2, none⟩ v2) ∧ DS w (((u.setCell ⟨b2, 0, none⟩ v0).setCell ⟨b2, 1, none⟩ v1).setCell ⟨b2, 2, none⟩ v2) g B a len cap :=
  ⟨⟨x, y, _, n, ca, f, rfl, h.own.put3 (fun e => h.lo.2.2.2.1 (Option.some.inj e).symm), h.ok⟩, ((h.ds.put 0 _ h.lo.1).put 1 _ h.lo.1).put 2 _ h.lo.1⟩
/-- The list of fades. -/
def Four (w u : World) (b : Nat) : Prop := w.heap.size ≤ b ∧ u.heap[b]? = some (.cells #[.int .i64 255, .int .i64 255, .int .i64 100, .int .i64 0] 3 (0, 0))
theorem Four.draw {w u v : World} {g B b : Nat} {a : Option Addr} {len cap : Nat} (h : Four w u b) (d : DS w u g B a len cap) (hg : u.grownBy v (some g)) : Four w v b := ⟨h.1, d.heap hg h.1 h.2⟩
theorem Four.fresh {w u : World} {g B : Nat} {a : Option Addr} {len cap : Nat} (d : DS w u g B a len cap) : Four w (u.alloc (.cells #[.int .i64 255, .int .i64 255, .int .i64 100, .int .i64 0] 3)) u.heap.size := ⟨d.size, new_row _ _⟩
theorem fades4_any {w u : World} {g B : Nat} {a : Option Addr} {len cap b : Nat} (d : DS w u g B a len cap) (hl : len ≤ 1048576) (h : Four w u b) :
    Calls Try.prog 34 #[.pointer (some ⟨g, 0, none⟩), .slice (some ⟨b, 0, none⟩) 4 4] u fun e v => ∃ z : Int, e = .returned (.int .i64 z) ∧ DS w v g B a len cap ∧ u.grownBy v (some g) := by
  refine (pickQ_ds (fun _ => True) d hl b 4 (by omega) (by omega) h.1 (heap_lt h.2) ?_).mono ?_
  · intro j hj
    have h2 := h.2
    have h5 : j = 0 ∨ j = 1 ∨ j = 2 ∨ j = 3 := by omega
    rcases h5 with rfl | rfl | rfl | rfl
    · exact ⟨255, trivial, by simp [World.cell?, h2]⟩
    · exact ⟨255, trivial, by simp [World.cell?, h2]⟩
    · exact ⟨100, trivial, by simp [World.cell?, h2]⟩
    · exact ⟨0, trivial, by simp [World.cell?, h2]⟩
  · rintro e v ⟨z, _, he, hd, hg⟩
    exact ⟨z, he, hd, hg⟩
theorem MOk.few {a b c d : Int} {n : Nat} {F : Nat → Int} (h : MOk a b c d n F) : n ≤ 1048576 := by
  rcases h with ⟨_, _, _, _, rfl⟩ | ⟨h1, hb, hn, _⟩
  · omega
  · rw [hn]; exact Nat.le_trans (sqN_le hb).1 (by omega)
theorem surfNew_right (x y : Int) (hx : 1 ≤ x ∧ x ≤ 12) (hy : 1 ≤ y ∧ y ≤ 12) (w : World) :
    Calls Try.prog 30 #[.int .i64 x, .int .i64 y] w fun r w' => ∃ gg n ca : Nat, r = .returned (.tuple #[.agg #[.int .i64 x, .int .i64 y, .slice (some ⟨gg, 0, none⟩) n ca], .bool true]) ∧ ColsV w' w.heap.size (.slice (some ⟨gg, 0, none⟩) n ca) n (fun _ => clear4) ∧ SOk x y n (fun _ => clear4) ∧ Below w.heap.size w w' := by
  have hok : newOkB x y = true := newOk_iff.2 ⟨hx, hy⟩
  have hs := new_ok hok
  have e1 : newX x y = x := if_pos hok
  have e2 : newY x y = y := if_pos hok
  refine (specSurfaceNew_any x y w).mono ?_
  rintro r w' ⟨p, cp, rfl, ho, hb⟩
  rw [e1, e2] at hs
  rw [e1, e2, hok]
  obtain ⟨gg, ca, e, _, _⟩ := own_at ho.choose_spec.1 (by have := hs.le; omega)
  cases e
  exact ⟨gg, newN x y, cp, rfl, ho, hs, hb⟩

set_option maxHeartbeats 16000000 in
set_option maxRecDepth 100000 in
theorem l14Surface_any (g B : Nat) (a : Option Addr) (len cap : Nat) (w : World) (hl : len ≤ 1048576) (h : DS w w g B a len cap) :
    Calls Try.prog 13 #[.pointer (some ⟨g, 0, none⟩)] w fun r w' => OneSurf w r w' ∧ DS w w' g B a len cap := by
  have D0 := hide h
  clear h
  go_enter Try.func13, Try.ntmps13
  go_upto_region 1 with fail
  have R2 := hide (new_row w (.cells #[.int .i64 0, .int .i64 0, .slice none 0 0] 26))
  have D1 := hide ((unhide D0).alloc (.cells #[.int .i64 0, .int .i64 0, .slice none 0 0] 26))
  obtain ⟨b2, hb2⟩ : ∃ b, Hid (b = w.heap.size) := ⟨_, rfl⟩
  rw [← unhide hb2] at R2
  rw [← unhide hb2]
  generalize w.alloc (.cells #[.int .i64 0, .int .i64 0, .slice none 0 0] 26) = W at R2 D1 ⊢
  have l2 : Hid (w.heap.size ≤ b2) := by unfold Hid; rw [unhide hb2]; exact Nat.le_refl _
  clear hb2 D0
  go_wp2_with fail
  go_fit (draw_any (unhide D1) hl 7 (by omega) (by omega))
  rintro r w1 ⟨n0, hn0, rfl, d2, g2⟩
  replace R2 := hide ((unhide D1).heap g2 (unhide l2) (unhide R2))
  replace D1 := hide d2
  clear d2 g2
  go_wp2_with fail
  go_fit (draw_any (unhide D1) hl 7 (by omega) (by omega))
  rintro r w2 ⟨n1, hn1, rfl, d2, g2⟩
  replace R2 := hide ((unhide D1).heap g2 (unhide l2) (unhide R2))
  replace D1 := hide d2
  clear d2 g2
  go_wp2_with fail
  obtain ⟨x, hx⟩ : ∃ x : Int, 1 + (n0 : Int) = x := ⟨_, rfl⟩
  obtain ⟨y, hy⟩ : ∃ y : Int, 1 + (n1 : Int) = y := ⟨_, rfl⟩
  rw [hx, hy]
  go_fit (surfNew_right x y (by omega) (by omega) _)
  rintro r w3 ⟨gh, n, cb, rfl, hO, hok, hb⟩
  have LSx := hide (show LS w (w3.alloc (.cells #[.int .i64 x, .int .i64 y, .slice (some ⟨gh, 0, none⟩) n cb] 26)) g B a len cap b2 w3.heap.size x y gh n cb (fun _ => clear4) from by
    have l := hO.lt gh rfl
    have k2 := heap_lt (unhide R2)
    have k3 := hb.size
    exact ⟨((unhide D1).calls hb).alloc _, row_next (al1_below _ _) (row_next hb (unhide R2)), new_row _ _, (hO.low (unhide D1).size).next (al1_below _ _), hok, unhide l2, Nat.le_trans (unhide D1).size hb.size, by omega, by omega, by omega⟩)
  have hn : n ≤ 1048576 := by have := hok.le; omega
  have hn0' : 0 < n := by have := hok.le; omega
  clear hO hok hb R2 D1 hx hy hn0 hn1 l2
  go_upto_region 3 with fail
  generalize w3.alloc (.cells #[.int .i64 x, .int .i64 y, .slice (some ⟨gh, 0, none⟩) n cb] 26) = W3 at LSx ⊢
  generalize w3.heap.size = b3 at LSx ⊢
  go_loopw [5] (fun i u => ∃ (k gg ca : Nat) (f : Nat → B4), k ≤ 2 ∧ i = .int .i64 (k : Int) ∧ Hid (LS w u g B a len cap b2 b3 x y gg n ca f)) (fun i _ => 3 - (intOf i).toNat)
  case atStart => exact ⟨0, gh, cb, _, by omega, rfl, LSx⟩
  case round =>
    clear LSx
    obtain ⟨k, gg, ca, f, hk, rfl, LSx⟩ := hrel
    go_wp2_with fail
    go_fit (draw_any (unhide LSx).ds hl 3 (by omega) (by omega))
    rintro r w4 ⟨n3, hn3, rfl, d4, g4⟩
    replace LSx := hide ((unhide LSx).draw d4 g4)
    clear d4 g4
    by_cases hkn : k < n3
    · have hki : (k : Int) < (n3 : Int) := by omega
      go_upto_region 5 with fail
      have LSz := hide (((unhide LSx).calls (al1_below w4 (.cells #[.int .i64 255, .int .i64 255, .int .i64 100, .int .i64 0] 3))).drew)
      have F4 := hide (show Four w (w4.alloc (.cells #[.int .i64 255, .int .i64 255, .int .i64 100, .int .i64 0] 3)).drew w4.heap.size from Four.fresh (unhide LSx).ds)
      obtain ⟨q0, q1, q2⟩ := row3 (unhide LSx).row; obtain ⟨qq0, qq1, qq2⟩ := row3 ((unhide LSx).calls (al1_below w4 (.cells #[.int .i64 255, .int .i64 255, .int .i64 100, .int .i64 0] 3))).row
      go_region_law (first | (refine step_call rfl 32 _ (by go_simp) (l11Mask_any g B a len cap _ hl (unhide LSx).drew.ds.again) ?_; rintro r w5 ⟨⟨ma, mb, mc, md, mo, m, mcap, MG, rfl, miv, mok⟩, d5⟩; refine ⟨_, rfl, ?_⟩; have A5 := hide ((unhide LSx).drew.draw ((unhide LSx).drew.ds.next d5.cur d5.gb) d5.gb); have I5 := hide (miv.low (unhide LSx).drew.ds.size); obtain ⟨p0, p1, p2⟩ := row3 (unhide A5).row; obtain ⟨pp0, pp1, pp2⟩ := row3 ((unhide A5).calls (al1_below w5 (.cells #[.int .i64 255, .int .i64 255, .int .i64 100, .int .i64 0] 3))).row; have hm := mok.few; clear mok miv d5) | (refine step_call rfl 32 _ (by go_simp) (l11Mask_any g B a len cap _ hl (unhide LSz).ds.again) ?_; rintro r w5 ⟨⟨ma, mb, mc, md, mo, m, mcap, MG, rfl, miv, mok⟩, d5⟩; refine ⟨_, rfl, ?_⟩; have A5 := hide ((unhide LSz).draw ((unhide LSz).ds.next d5.cur d5.gb) d5.gb); have I5 := hide (miv.low (unhide LSz).ds.size); have K5 := hide ((unhide F4).draw (unhide LSz).ds d5.gb); obtain ⟨p0, p1, p2⟩ := row3 (unhide A5).row; obtain ⟨pp0, pp1, pp2⟩ := row3 ((unhide A5).calls (al1_below w5 (.cells #[.int .i64 255, .int .i64 255, .int .i64 100, .int .i64 0] 3))).row; have hm := mok.few; clear mok miv d5) | (refine step_call rfl 33 _ (by go_simp) (l12Paint_any g B a len cap _ hl (unhide A5).ds.again) ?_; rintro r w6 ⟨⟨pk, pr, pg, pb, pa, pr2, pg2, pb2, pa2, pfx, pfy, ptx, pty, rfl, pok⟩, d6⟩; refine ⟨_, rfl, ?_⟩; have A6 := hide ((unhide A5).draw ((unhide A5).ds.next d6.cur d6.gb) d6.gb); have I6 := hide (ints_draw (unhide A5).ds (unhide I5) d6.gb); (first | (have K6 := hide ((unhide K5).draw (unhide A5).ds d6.gb)) | skip); obtain ⟨s0, s1, s2⟩ := row3 (unhide A6).row; obtain ⟨ss0, ss1, ss2⟩ := row3 ((unhide A6).calls (al1_below w6 (.cells #[.int .i64 255, .int .i64 255, .int .i64 100, .int .i64 0] 3))).row; clear d6 pok) | (refine step_call rfl 33 _ (by go_simp) (l12Paint_any g B a len cap _ hl ((unhide A5).calls (al1_below w5 (.cells #[.int .i64 255, .int .i64 255, .int .i64 100, .int .i64 0] 3))).ds.again) ?_; rintro r w6 ⟨⟨pk, pr, pg, pb, pa, pr2, pg2, pb2, pa2, pfx, pfy, ptx, pty, rfl, pok⟩, d6⟩; refine ⟨_, rfl, ?_⟩; have A6 := hide (((unhide A5).calls (al1_below w5 (.cells #[.int .i64 255, .int .i64 255, .int .i64 100, .int .i64 0] 3))).draw (((unhide A5).calls (al1_below w5 (.cells #[.int .i64 255, .int .i64 255, .int .i64 100, .int .i64 0] 3))).ds.next d6.cur d6.gb) d6.gb); have I6 := hide (ints_draw ((unhide A5).calls (al1_below w5 (.cells #[.int .i64 255, .int .i64 255, .int .i64 100, .int .i64 0] 3))).ds ((unhide I5).next (al1_below w5 (.cells #[.int .i64 255, .int .i64 255, .int .i64 100, .int .i64 0] 3))) d6.gb); have K6 := hide ((Four.fresh (unhide A5).ds).draw ((unhide A5).calls (al1_below w5 (.cells #[.int .i64 255, .int .i64 255, .int .i64 100, .int .i64 0] 3))).ds d6.gb); obtain ⟨s0, s1, s2⟩ := row3 (unhide A6).row; obtain ⟨ss0, ss1, ss2⟩ := row3 ((unhide A6).calls (al1_below w6 (.cells #[.int .i64 255, .int .i64 255, .int .i64 100, .int .i64 0] 3))).row; clear d6 pok) | (refine step_call rfl 23 _ (by go_simp) (draw_any (unhide A6).ds hl 5 (by omega) (by omega)) ?_; rintro r w7 ⟨n5, hn5, rfl, d7, g7⟩; refine ⟨_, rfl, ?_⟩; have A7 := hide ((unhide A6).draw (d7) g7); have I7 := hide (ints_draw (unhide A6).ds (unhide I6) g7); (first | (have K7 := hide ((unhide K6).draw (unhide A6).ds g7)) | skip); obtain ⟨t0, t1, t2⟩ := row3 (unhide A7).row; obtain ⟨tt0, tt1, tt2⟩ := row3 ((unhide A7).calls (al1_below w7 (.cells #[.int .i64 255, .int .i64 255, .int .i64 100, .int .i64 0] 3))).row; have v7 : IntKind.i64.wrap (1 + (n5 : Int)) = 1 + (n5 : Int) := IntWalk.i64_in _ (by omega); clear d7 g7) | (refine step_call rfl 23 _ (by go_simp) (draw_any ((unhide A6).calls (al1_below w6 (.cells #[.int .i64 255, .int .i64 255, .int .i64 100, .int .i64 0] 3))).ds hl 5 (by omega) (by omega)) ?_; rintro r w7 ⟨n5, hn5, rfl, d7, g7⟩; refine ⟨_, rfl, ?_⟩; have A7 := hide (((unhide A6).calls (al1_below w6 (.cells #[.int .i64 255, .int .i64 255, .int .i64 100, .int .i64 0] 3))).draw (d7) g7); have I7 := hide (ints_draw ((unhide A6).calls (al1_below w6 (.cells #[.int .i64 255, .int .i64 255, .int .i64 100, .int .i64 0] 3))).ds ((unhide I6).next (al1_below w6 (.cells #[.int .i64 255, .int .i64 255, .int .i64 100, .int .i64 0] 3))) g7); have K7 := hide ((Four.fresh (unhide A6).ds).draw ((unhide A6).calls (al1_below w6 (.cells #[.int .i64 255, .int .i64 255, .int .i64 100, .int .i64 0] 3))).ds g7); obtain ⟨t0, t1, t2⟩ := row3 (unhide A7).row; obtain ⟨tt0, tt1, tt2⟩ := row3 ((unhide A7).calls (al1_below w7 (.cells #[.int .i64 255, .int .i64 255, .int .i64 100, .int .i64 0] 3))).row; have v7 : IntKind.i64.wrap (1 + (n5 : Int)) = 1 + (n5 : Int) := IntWalk.i64_in _ (by omega); clear d7 g7) | (refine step_call rfl 34 _ (by go_simp) (fades4_any (unhide A7).ds hl (unhide K7)) ?_; rintro r w8 ⟨fz, rfl, d8, g8⟩; refine ⟨_, rfl, ?_⟩; have A8 := hide ((unhide A7).draw (d8) g8); have I8 := hide (ints_draw (unhide A7).ds (unhide I7) g8); obtain ⟨v0, v1, v2⟩ := row3 (unhide A8).row; obtain ⟨vv0, vv1, vv2⟩ := row3 ((unhide A8).calls (al1_below w8 (.cells #[.int .i64 255, .int .i64 255, .int .i64 100, .int .i64 0] 3))).row; clear d8 g8) | (refine step_call rfl 34 _ (by go_simp) (fades4_any ((unhide A7).calls (al1_below w7 (.cells #[.int .i64 255, .int .i64 255, .int .i64 100, .int .i64 0] 3))).ds hl (Four.fresh (unhide A7).ds)) ?_; rintro r w8 ⟨fz, rfl, d8, g8⟩; refine ⟨_, rfl, ?_⟩; have A8 := hide (((unhide A7).calls (al1_below w7 (.cells #[.int .i64 255, .int .i64 255, .int .i64 100, .int .i64 0] 3))).draw (d8) g8); have I8 := hide (ints_draw ((unhide A7).calls (al1_below w7 (.cells #[.int .i64 255, .int .i64 255, .int .i64 100, .int .i64 0] 3))).ds ((unhide I7).next (al1_below w7 (.cells #[.int .i64 255, .int .i64 255, .int .i64 100, .int .i64 0] 3))) g8); have K8 := hide ((Four.fresh (unhide A7).ds).draw ((unhide A7).calls (al1_below w7 (.cells #[.int .i64 255, .int .i64 255, .int .i64 100, .int .i64 0] 3))).ds g8); obtain ⟨v0, v1, v2⟩ := row3 (unhide A8).row; obtain ⟨vv0, vv1, vv2⟩ := row3 ((unhide A8).calls (al1_below w8 (.cells #[.int .i64 255, .int .i64 255, .int .i64 100, .int .i64 0] 3))).row; clear d8 g8) | (refine step_call rfl 31 _ (by go_simp) (specPaintMask_any x y f (some ⟨gg, 0, none⟩) n ca hn (by intro h; cases h) ma mb mc md MG mo m mcap hm pk pr pg pb pa pr2 pg2 pb2 pa2 pfx pfy ptx pty (1 + (n5 : Int)) fz w8 (unhide A8).own.cols (unhide I8).ints) ?_; rintro r w9 ⟨p9, c9, rfl, o9, hb9⟩; refine ⟨_, rfl, ?_⟩; have A9 := hide ((unhide A8).calls hb9); obtain ⟨gg9, cc9, e9, _, _⟩ := own_at o9.choose_spec.1 hn0'; cases e9; replace o9 := hide o9; have s8 := hide (show w.heap.size ≤ w8.heap.size ∧ b2 < w8.heap.size ∧ b3 < w8.heap.size from ⟨(unhide A8).ds.size, heap_lt (unhide A8).zero, heap_lt (unhide A8).row⟩); obtain ⟨x0', x1', x2'⟩ := row3 (unhide A9).row; obtain ⟨y0', y1', y2'⟩ := frozen3 (unhide A9).row; clear hb9))
      all_goals
        have A10 := hide ((unhide A9).store (unhide o9) (unhide s8).1 (unhide s8).2.1 (unhide s8).2.2 (paint_ok (unhide A8).ok))
        go_wp2_with fail
        go_roundw
        case rel => exact ⟨k + 1, _, _, _, by omega, by go_num, A10⟩
        case measure => simp [intOf]; omega
    · have hki : ¬ (k : Int) < (n3 : Int) := by omega
      obtain ⟨e0, e1, e2⟩ := row3 (unhide LSx).zero
      obtain ⟨f0, f1, f2⟩ := frozen3 (unhide LSx).zero
      obtain ⟨q0, q1, q2⟩ := row3 (unhide LSx).row
      go_wp2_with fail
      refine bodyPost_ret (v := .agg #[.int .i64 x, .int .i64 y, .slice (some ⟨gg, 0, none⟩) n ca]) (by simp [results, Try.results13, go_sem, e0, e1, e2]) rfl ?_
      exact (unhide LSx).res

set_option maxHeartbeats 4000000 in
set_option maxRecDepth 100000 in
theorem drawRightSurface_any (a0 : Option Addr) (len cap : Nat) (w : World) (hl : len ≤ 1048576) (hin : InB w.heap.size w a0 len) :
    Calls Try.prog 5 #[.slice a0 len cap] w fun r w' => OneSurf w r w' ∧ Below w.heap.size w w' := by
  have HI := hide hin
  clear hin
  go_enter Try.func5, Try.ntmps5
  go_wp2_with fail
  obtain ⟨W, hW⟩ : ∃ W, W = w.alloc (.cells #[.int .i64 0, .int .i64 0, .slice none 0 0] 26) := ⟨_, rfl⟩
  have R2 := hide (show W.heap[w.heap.size]? = some (.cells #[.int .i64 0, .int .i64 0, .slice none 0 0] 26 (0, 0)) by rw [hW]; exact new_row _ _)
  have HB := hide (show Below w.heap.size w W by rw [hW]; exact al1_below _ _)
  rw [← hW]
  clear hW
  refine (l01New_any a0 len cap _ hl ((unhide HI).next (unhide HB))).mono ?_
  rintro e w1 ⟨g0, hg, rfl, hc, hb1'⟩
  have D1 := hide (DS.start hc (((unhide HI).next (unhide HB)).below hb1') hb1'.size hg)
  have B1 := hide hb1'
  clear hc hb1' HI
  go_wp2_with fail
  go_fit (l14Surface_any g0 _ a0 len cap _ hl (unhide D1))
  rintro e w2 ⟨⟨x, y, p, n, cp, f, rfl, hO, hok⟩, d2⟩
  have BB := hide (d2.below (unhide B1) (unhide B1).size)
  have R3 := hide (((unhide BB).block _ (heap_lt (unhide R2))).trans (unhide R2))
  have l1 := hide (show w.heap.size < w1.heap.size from Nat.lt_of_lt_of_le (heap_lt (unhide R2)) (unhide B1).size)
  replace hO := hide hO
  replace hok := hide hok
  clear d2
  obtain ⟨e0, e1, e2⟩ := row3 (unhide R3)
  obtain ⟨f0, f1, f2⟩ := frozen3 (unhide R3)
  go_wp2_with fail
  refine bodyPost_ret (v := .agg #[.int .i64 x, .int .i64 y, .slice p n cp]) (by simp [results, Try.results5, go_sem, e0, e1, e2]) rfl ⟨⟨x, y, p, n, cp, f, rfl, ?_, unhide hok⟩, below_put3 (below_two (unhide HB) (unhide BB)) (Nat.le_refl _) _ _ _⟩
  exact ((unhide hO).low (by have := unhide l1; omega)).put3 ((unhide hO).notOld (unhide l1))
end Go.Proofs.Ythelfgippiimiac

/-
  The specification's LayOver.
-/
namespace Go.Proofs.Ythelfgippiimiac
open Go.RowKit
set_option linter.unusedVariables false

theorem grown_put4' {a w : World} {g : Nat} (h : a.grownBy w (some g)) (o0 o1 o2 o3 : Nat) (x y z u : Value) : a.grownBy ((((w.setCell ⟨g, o0, none⟩ x).setCell ⟨g, o1, none⟩ y).setCell ⟨g, o2, none⟩ z).setCell ⟨g, o3, none⟩ u) (some g) := by
  refine ⟨h.os, h.tape, h.output, ?_, fun k hk hne => ?_⟩
  · rw [setc_size, setc_size, setc_size, setc_size]; exact h.size
  · have hne' : k ≠ g := fun e => hne (by rw [e])
    rw [← h.block k hk hne]
    simp [World.setCell, Array.getElem?_modify, Ne.symm hne']
theorem row_grown' {u v : World} {b g : Nat} {o : Obj} (hg : u.grownBy v (some g)) (hne : b ≠ g) (h : u.heap[b]? = some o) : v.heap[b]? = some o := (hg.block b (heap_lt h) (fun e => hne (Option.some.inj e))).trans h
theorem cell_grown' {u v : World} {g : Nat} {p : Addr} {x : Value} (hg : u.grownBy v (some g)) (hne : p.block ≠ g) (h : u.cell? p = some x) : v.cell? p = some x := hg.cell h (fun e => hne (Option.some.inj e))

set_option maxHeartbeats 16000000 in
set_option maxRecDepth 100000 in
theorem specLayOver_any (x y : Int) (f : Nat → B4) (ao : Option Addr) (n cp : Nat) (hn : n ≤ 1048576) (hao : ao = none → cp = 0)
    (x' y' : Int) (f' : Nat → B4) (bo : Option Addr) (n' cp' : Nat) (hn' : n' ≤ 1048576) (mode fade : Int) (w : World) (P : ∀ i, i < n → ClAt w ao i (f i)) (Q : ∀ i, i < n' → ClAt w bo i (f' i)) :
    Calls Try.prog 12 #[.agg #[.int .i64 x, .int .i64 y, .slice ao n cp], .agg #[.int .i64 x', .int .i64 y', .slice bo n' cp'], .int .i64 mode, .int .i64 fade] w fun r w' => SurfRes w r w' x y n (layOn mode fade x y n f x' y' n' f') := by
  have EC := hide (fun u => specL14Copy_any x y f ao n cp hn hao u)
  have ES := hide (fun u => specSurfaceOk_any x y f ao n cp hn u)
  have EM := hide (fun u => specSurfaceOk_any x' y' f' bo n' cp' hn' u)
  replace P := hide P
  replace Q := hide Q
  have hF : Hid (layOn mode fade x y n f x' y' n' f' = if surfOkB x y n f = true ∧ surfOkB x' y' n' f' = true ∧ x = x' ∧ y = y' then (fun i => layC mode fade (f i) (f' i)) else f) := rfl
  have hS : Hid (surfOkB x y n f = true → SOk x y n f) := fun h => surfOk_iff.1 h
  have hM : Hid (surfOkB x' y' n' f' = true → SOk x' y' n' f') := fun h => surfOk_iff.1 h
  generalize layOn mode fade x y n f x' y' n' f' = F at hF ⊢
  generalize surfOkB x y n f = X1 at ES hF hS
  generalize surfOkB x' y' n' f' = X2 at EM hF hM
  unfold SurfRes
  go_enter Try.func12, Try.ntmps12
  go_upto_region 1 with fail
  have R4 := hide (al3_0 w (.cells #[.int .i64 x, .int .i64 y, .slice ao n cp] 26) (.cells #[.int .i64 x', .int .i64 y', .slice bo n' cp'] 26) (.cells #[.int .i64 0, .int .i64 0, .slice none 0 0] 26))
  have R5 := hide (al3_1 w (.cells #[.int .i64 x, .int .i64 y, .slice ao n cp] 26) (.cells #[.int .i64 x', .int .i64 y', .slice bo n' cp'] 26) (.cells #[.int .i64 0, .int .i64 0, .slice none 0 0] 26))
  have R8 := hide (al3_2 w (.cells #[.int .i64 x, .int .i64 y, .slice ao n cp] 26) (.cells #[.int .i64 x', .int .i64 y', .slice bo n' cp'] 26) (.cells #[.int .i64 0, .int .i64 0, .slice none 0 0] 26))
  have HB := hide (al3_below w (.cells #[.int .i64 x, .int .i64 y, .slice ao n cp] 26) (.cells #[.int .i64 x', .int .i64 y', .slice bo n' cp'] 26) (.cells #[.int .i64 0, .int .i64 0, .slice none 0 0] 26))
  obtain ⟨b8, hb8⟩ : ∃ b, Hid (b = w.heap.size + 1 + 1) := ⟨_, rfl⟩
  obtain ⟨b5, hb5⟩ : ∃ b, Hid (b = w.heap.size + 1) := ⟨_, rfl⟩
  obtain ⟨b4, hb4⟩ : ∃ b, Hid (b = w.heap.size) := ⟨_, rfl⟩
  have lz : Hid (w.heap.size ≤ b8) := by unfold Hid; rw [unhide hb8]; omega
  rw [← unhide hb8] at R8
  rw [← unhide hb5] at R5
  rw [← unhide hb4] at R4
  rw [← unhide hb8, ← unhide hb5, ← unhide hb4]
  generalize ((w.alloc (.cells #[.int .i64 x, .int .i64 y, .slice ao n cp] 26)).alloc (.cells #[.int .i64 x', .int .i64 y', .slice bo n' cp'] 26)).alloc (.cells #[.int .i64 0, .int .i64 0, .slice none 0 0] 26) = W at R4 R5 R8 HB ⊢
  clear hb8 hb5 hb4
  obtain ⟨p0, p1, p2⟩ := row3 (unhide R4)
  have l0 := hide (show b4 < W.heap.size ∧ b5 < W.heap.size ∧ b8 < W.heap.size from ⟨heap_lt (unhide R4), heap_lt (unhide R5), heap_lt (unhide R8)⟩)
  have lW := hide (unhide HB).size
  have E2 := hide (unhide EC W (fun i hi => (unhide P i hi).next (unhide HB)))
  go_wp2_with fail
  go_fit (unhide E2)
  rintro r w1 ⟨gp, gc, rfl, hO, hb⟩
  replace R4 := hide (row_next hb (unhide R4))
  replace R5 := hide (row_next hb (unhide R5))
  replace R8 := hide (row_next hb (unhide R8))
  replace HB := hide (below_two (unhide HB) hb)
  clear hb p0 p1 p2 E2
  replace hO := hide hO
  go_upto_region 2 with fail
  have R9 := hide (new_row w1 (.cells #[.int .i64 x, .int .i64 y, .slice gp n gc] 26))
  have l1 := hide (show ∀ k, (Value.slice gp n gc).ownBlock = some k → W.heap.size ≤ k ∧ k < w1.heap.size from (unhide hO).lt)
  replace R4 := hide (row_next (al1_below w1 (.cells #[.int .i64 x, .int .i64 y, .slice gp n gc] 26)) (unhide R4))
  replace R5 := hide (row_next (al1_below w1 (.cells #[.int .i64 x, .int .i64 y, .slice gp n gc] 26)) (unhide R5))
  replace R8 := hide (row_next (al1_below w1 (.cells #[.int .i64 x, .int .i64 y, .slice gp n gc] 26)) (unhide R8))
  replace HB := hide (below_two (unhide HB) (al1_below w1 (.cells #[.int .i64 x, .int .i64 y, .slice gp n gc] 26)))
  replace hO := hide ((unhide hO).next (al1_below w1 (.cells #[.int .i64 x, .int .i64 y, .slice gp n gc] 26)))
  generalize w1.alloc (.cells #[.int .i64 x, .int .i64 y, .slice gp n gc] 26) = W1 at R4 R5 R8 R9 HB hO ⊢
  generalize w1.heap.size = b9 at R9 l1 ⊢
  obtain ⟨p0, p1, p2⟩ := row3 (unhide R4)
  have E2 := hide (unhide ES W1 (fun i hi => (unhide P i hi).next (unhide HB)))
  go_wp2_with fail
  go_fit (unhide E2)
  rintro r w2 ⟨rfl, hb⟩
  replace R4 := hide (row_next hb (unhide R4))
  replace R5 := hide (row_next hb (unhide R5))
  replace R8 := hide (row_next hb (unhide R8))
  replace R9 := hide (row_next hb (unhide R9))
  replace HB := hide (below_two (unhide HB) hb)
  replace hO := hide ((unhide hO).next hb)
  clear hb p0 p1 p2 E2
  cases X1 with
  | false =>
    have hFn := hide (show F = f by rw [unhide hF, if_neg (by rintro ⟨h, _⟩; cases h)])
    obtain ⟨e0, e1, e2⟩ := row3 (unhide R8)
    obtain ⟨f0, f1, f2⟩ := frozen3 (unhide R8)
    obtain ⟨q0, q1, q2⟩ := row3 (unhide R9)
    go_wp2_with fail
    refine bodyPost_ret (v := .agg #[.int .i64 x, .int .i64 y, .slice gp n gc]) (by simp [results, Try.results12, go_sem, e0, e1, e2]) rfl ⟨gp, gc, rfl, ?_, below_put3 (unhide HB) (unhide lz) _ _ _⟩
    obtain ⟨xs, o1, hx1⟩ := unhide hO
    rw [unhide hFn]
    exact ⟨xs, own_low (own_put3 o1 (fun k hk => by have := (unhide l1 k hk).1; have := unhide l0; omega) _ _ _) (unhide lW), hx1⟩
  | true =>
  obtain ⟨p0, p1, p2⟩ := row3 (unhide R5)
  have E2 := hide (unhide EM w2 (fun i hi => (unhide Q i hi).next (unhide HB)))
  go_wp2_with fail
  go_fit (unhide E2)
  rintro r w3 ⟨rfl, hb⟩
  replace R4 := hide (row_next hb (unhide R4))
  replace R5 := hide (row_next hb (unhide R5))
  replace R8 := hide (row_next hb (unhide R8))
  replace R9 := hide (row_next hb (unhide R9))
  replace HB := hide (below_two (unhide HB) hb)
  replace hO := hide ((unhide hO).next hb)
  clear hb p0 p1 p2 E2
  cases X2 with
  | false =>
    have hFn := hide (show F = f by rw [unhide hF, if_neg (by rintro ⟨_, h, _⟩; cases h)])
    obtain ⟨e0, e1, e2⟩ := row3 (unhide R8)
    obtain ⟨f0, f1, f2⟩ := frozen3 (unhide R8)
    obtain ⟨q0, q1, q2⟩ := row3 (unhide R9)
    go_wp2_with fail
    refine bodyPost_ret (v := .agg #[.int .i64 x, .int .i64 y, .slice gp n gc]) (by simp [results, Try.results12, go_sem, e0, e1, e2]) rfl ⟨gp, gc, rfl, ?_, below_put3 (unhide HB) (unhide lz) _ _ _⟩
    obtain ⟨xs, o1, hx1⟩ := unhide hO
    rw [unhide hFn]
    exact ⟨xs, own_low (own_put3 o1 (fun k hk => by have := (unhide l1 k hk).1; have := unhide l0; omega) _ _ _) (unhide lW), hx1⟩
  | true =>
  obtain ⟨p0, p1, p2⟩ := row3 (unhide R4)
  obtain ⟨t0, t1, t2⟩ := row3 (unhide R5)
  by_cases hx : x = x'
  · by_cases hy : y = y'
    · have sok := unhide hS (by trivial)
      have sok' := unhide hM (by trivial)
      have hFy := hide (show F = (fun i => layC mode fade (f i) (f' i)) by rw [unhide hF, if_pos ⟨by trivial, by trivial, hx, hy⟩])
      have hnn : n = n' := by have h1 := sok.2.2.1; have h2 := sok'.2.2.1; rw [hx, hy, ← h2] at h1; omega
      have sle := sok.le
      subst hx hy hnn
      clear hF hS hM EM ES EC sok sok'
      obtain ⟨gb, rfl⟩ : ∃ gb, gp = some ⟨gb, 0, none⟩ := by
        obtain ⟨xs, o1, _⟩ := unhide hO
        obtain ⟨gb, cap, e, _⟩ := own_at o1 (by omega)
        cases e
        exact ⟨gb, rfl⟩
      have lg := hide (show W.heap.size ≤ gb ∧ gb < b9 from unhide l1 gb rfl)
      clear l1
      obtain ⟨G, hG⟩ : ∃ G, Hid ((fun i => layC mode fade (f i) (f' i)) = G) := ⟨_, rfl⟩
      have hGk : Hid (∀ k : Nat, G k = blendC mode (fadeC (f' k) fade) (f k)) := fun k => by rw [← unhide hG]; rfl
      rw [unhide hG] at hFy
      clear hG
      have hO0 := hide (show ColsV w3 W.heap.size (.slice (some ⟨gb, 0, none⟩) n gc) n (upTo G f 0) by rw [upTo_none]; exact unhide hO)
      go_upto_region 4 with fail
      go_wp2_with fail
      clear p0 p1 p2 t0 t1 t2
      go_loopw [10] (fun i u => ∃ k : Nat, k ≤ n ∧ i = .int .i64 k ∧ Hid (u.heap[b4]? = some (.cells #[.int .i64 x, .int .i64 y, .slice ao n cp] 26 (0, 0))) ∧ Hid (u.heap[b5]? = some (.cells #[.int .i64 x, .int .i64 y, .slice bo n cp'] 26 (0, 0))) ∧ Hid (u.heap[b8]? = some (.cells #[.int .i64 0, .int .i64 0, .slice none 0 0] 26 (0, 0))) ∧ Hid (u.heap[b9]? = some (.cells #[.int .i64 x, .int .i64 y, .slice (some ⟨gb, 0, none⟩) n gc] 26 (0, 0))) ∧ Hid (Below w.heap.size w u) ∧ Hid (ColsV u W.heap.size (.slice (some ⟨gb, 0, none⟩) n gc) n (upTo G f k))) (fun i _ => n - (intOf i).toNat)
      case atStart => exact ⟨0, by omega, rfl, R4, R5, R8, R9, HB, hO0⟩
      case round =>
        clear R4 R5 R8 R9 HB hO hO0
        obtain ⟨k, hk, rfl, R4, R5, R8, R9, HB, hO⟩ := hrel
        obtain ⟨p0, p1, p2⟩ := row3 (unhide R4)
        by_cases hkn : k < n
        · have HP0 := unhide P k hkn
          have HP := HP0.next (unhide HB)
          have HQ0 := unhide Q k hkn
          have HQ := HQ0.next (unhide HB)
          have hGb := hide (unhide hGk k)
          obtain ⟨zz, hzz⟩ : ∃ zz, Hid (f k = zz) := ⟨_, rfl⟩
          obtain ⟨yy, hyy⟩ : ∃ yy, Hid (f' k = yy) := ⟨_, rfl⟩
          rw [unhide hzz] at HP HP0 hGb
          rw [unhide hyy] at HQ HQ0 hGb
          obtain ⟨z0, z1, z2, z3⟩ := zz
          obtain ⟨y0, y1, y2, y3⟩ := yy
          obtain ⟨s0, o0, rfl, g0, g1, g2, g3⟩ := HP
          obtain ⟨s0', o0', ee, g0', _⟩ := HP0
          cases ee
          obtain ⟨s5, o5, rfl, h0, h1, h2, h3⟩ := HQ
          obtain ⟨s5', o5', ee, h0', _⟩ := HQ0
          cases ee
          have ls0 := hide (show s0 < w.heap.size ∧ s5 < w.heap.size from ⟨block_lt_of_cell g0', block_lt_of_cell h0'⟩)
          clear g0' h0'
          dsimp only at g0 g1 g2 g3 h0 h1 h2 h3
          replace g0 := hide g0
          replace g1 := hide g1
          replace g2 := hide g2
          replace g3 := hide g3
          replace h0 := hide h0
          replace h1 := hide h1
          replace h2 := hide h2
          replace h3 := hide h3
          have EF1 := hide (specFade_any y0 y1 y2 y3 fade)
          generalize fadeC ⟨y0, y1, y2, y3⟩ fade = D at EF1 hGb
          obtain ⟨D0, D1, D2, D3⟩ := D
          dsimp only at EF1
          have EBL := hide (specBlend_any mode D0 D1 D2 D3 z0 z1 z2 z3)
          generalize blendC mode ⟨D0, D1, D2, D3⟩ ⟨z0, z1, z2, z3⟩ = BB at EBL hGb
          obtain ⟨B0, B1, B2, B3⟩ := BB
          dsimp only at EBL
          have hkn' : (k : Int) < (n : Int) := by omega
          have hkn0 : ¬ (k : Int) < 0 := by omega
          have vk : IntKind.i64.wrap ((k : Int) + 1) = (k : Int) + 1 := IntWalk.i64_in _ (by omega)
          go_upto_region 7 with fail
          clear p0 p1 p2
          have k0 := hide (show ∀ u, wr.grownBy u (some gb) → (u.cell? ⟨b9, 2, none⟩ = some (.slice (some ⟨gb, 0, none⟩) n gc) ∧ u.cell? ⟨b4, 2, none⟩ = some (.slice (some ⟨s0, o0, none⟩) n cp) ∧ u.cell? ⟨b5, 2, none⟩ = some (.slice (some ⟨s5, o5, none⟩) n cp') ∧ u.cell? ⟨s0, o0 + k * 4, none⟩ = some (.int .i64 z0) ∧ u.cell? ⟨s0, o0 + k * 4 + 1, none⟩ = some (.int .i64 z1) ∧ u.cell? ⟨s0, o0 + k * 4 + 2, none⟩ = some (.int .i64 z2) ∧ u.cell? ⟨s0, o0 + k * 4 + 3, none⟩ = some (.int .i64 z3) ∧ u.cell? ⟨s5, o5 + k * 4, none⟩ = some (.int .i64 y0) ∧ u.cell? ⟨s5, o5 + k * 4 + 1, none⟩ = some (.int .i64 y1) ∧ u.cell? ⟨s5, o5 + k * 4 + 2, none⟩ = some (.int .i64 y2) ∧ u.cell? ⟨s5, o5 + k * 4 + 3, none⟩ = some (.int .i64 y3) ∧ wr.grownBy u (some gb)) from fun u h => by
            obtain ⟨p0, p1, p2⟩ := row3 (row_grown' h (by have := unhide l0; have := unhide lg; omega) (unhide R4))
            obtain ⟨t0, t1, t2⟩ := row3 (row_grown' h (by have := unhide l0; have := unhide lg; omega) (unhide R5))
            obtain ⟨r0, r1, r2⟩ := row3 (row_grown' h (by have := unhide lg; omega) (unhide R9))
            have hs : s0 ≠ gb := by have := unhide ls0; have := unhide lg; have := unhide lW; omega
            have ht : s5 ≠ gb := by have := unhide ls0; have := unhide lg; have := unhide lW; omega
            exact ⟨r2, p2, t2, cell_grown' h hs (unhide g0), cell_grown' h hs (unhide g1), cell_grown' h hs (unhide g2), cell_grown' h hs (unhide g3), cell_grown' h ht (unhide h0), cell_grown' h ht (unhide h1), cell_grown' h ht (unhide h2), cell_grown' h ht (unhide h3), h⟩)
          have k00 := hide (unhide k0 _ (show wr.grownBy wr.drew (some gb) from ⟨rfl, rfl, rfl, Nat.le_refl _, fun _ _ _ => rfl⟩))
          go_region_held3 (fun u => u.cell? ⟨b9, 2, none⟩ = some (.slice (some ⟨gb, 0, none⟩) n gc) ∧ u.cell? ⟨b4, 2, none⟩ = some (.slice (some ⟨s0, o0, none⟩) n cp) ∧ u.cell? ⟨b5, 2, none⟩ = some (.slice (some ⟨s5, o5, none⟩) n cp') ∧ u.cell? ⟨s0, o0 + k * 4, none⟩ = some (.int .i64 z0) ∧ u.cell? ⟨s0, o0 + k * 4 + 1, none⟩ = some (.int .i64 z1) ∧ u.cell? ⟨s0, o0 + k * 4 + 2, none⟩ = some (.int .i64 z2) ∧ u.cell? ⟨s0, o0 + k * 4 + 3, none⟩ = some (.int .i64 z3) ∧ u.cell? ⟨s5, o5 + k * 4, none⟩ = some (.int .i64 y0) ∧ u.cell? ⟨s5, o5 + k * 4 + 1, none⟩ = some (.int .i64 y1) ∧ u.cell? ⟨s5, o5 + k * 4 + 2, none⟩ = some (.int .i64 y2) ∧ u.cell? ⟨s5, o5 + k * 4 + 3, none⟩ = some (.int .i64 y3) ∧ wr.grownBy u (some gb)) ((first | with_reducible exact unhide k00 | (with_reducible refine unhide k0 _ ?_; first | with_reducible assumption | (with_reducible refine grown_put4' ?_ _ _ _ _ _ _ _ _; with_reducible assumption)))) (first | (go_at_call 29; go_fit (unhide EF1 _); rintro r w8 ⟨rfl, hb8⟩; have h8 := below_undrew hb8; clear hb8; have hg8 := grown_of_below h8 (some gb)) | (go_at_call 28; go_fit (unhide EBL _); rintro r w9 ⟨rfl, hb9⟩; have h9 := below_two h8 hb9; clear hb9 hg8 h8; have hg9 := grown_of_below h9 (some gb); obtain ⟨xs9, o9, x9⟩ := (unhide hO).next h9; obtain ⟨q0, q1, q2, q3, t0, t1, t2, t3⟩ := own_cell4 o9 hkn; have f0 := o9.frozenAt (k * 4); have f1 := o9.frozenAt (k * 4 + 1); have f2 := o9.frozenAt (k * 4 + 2); have f3 := o9.frozenAt (k * 4 + 3); replace o9 := hide o9; replace x9 := hide x9))
          all_goals
            go_wp2_with fail
            go_roundw
            case rel =>
              have hgg := grown_put4' hg9 (k * 4) (k * 4 + 1) (k * 4 + 2) (k * 4 + 3) (.int .i64 B0) (.int .i64 B1) (.int .i64 B2) (.int .i64 B3)
              have n5 : b4 ≠ gb ∧ b5 ≠ gb ∧ b8 ≠ gb ∧ b9 ≠ gb := by have := unhide l0; have := unhide lg; omega
              refine ⟨k + 1, by omega, by go_num, row_grown' hgg n5.1 (unhide R4), row_grown' hgg n5.2.1 (unhide R5), row_grown' hgg n5.2.2.1 (unhide R8), row_grown' hgg n5.2.2.2 (unhide R9), below_at4 (below_two (unhide HB) h9) (by have := unhide lg; have := unhide lW; omega) _ _ _ _ _ _ _ _, ?_⟩
              refine ⟨_, own_put4 (unhide o9) _ _ _ _, ?_⟩
              rw [upTo_step, unhide hGb]
              exact bx_put (unhide x9) (unhide o9).1 hkn ⟨B0, B1, B2, B3⟩
            case measure => simp [intOf]; omega
        · have hke : k = n := by omega
          have hki : ¬ (k : Int) < (n : Int) := by omega
          obtain ⟨e0, e1, e2⟩ := row3 (unhide R8)
          obtain ⟨f0, f1, f2⟩ := frozen3 (unhide R8)
          obtain ⟨q0, q1, q2⟩ := row3 (unhide R9)
          go_wp2_with fail
          refine bodyPost_ret (v := .agg #[.int .i64 x, .int .i64 y, .slice (some ⟨gb, 0, none⟩) n gc]) (by simp [results, Try.results12, go_sem, e0, e1, e2]) rfl ⟨_, gc, rfl, ?_, below_put3 (unhide HB) (unhide lz) _ _ _⟩
          obtain ⟨xs, o1, hx1⟩ := unhide hO
          rw [hke] at hx1
          rw [unhide hFy]
          exact ⟨xs, own_low (own_put3 o1 (fun k hk => by have e : gb = k := Option.some.inj hk; have := unhide lg; have := unhide l0; omega) _ _ _) (unhide lW), fun i hi => by have := hx1 i hi; rw [upTo_all hi] at this; exact this⟩
    · have hyb : (y == y') = false := beq_eq_false_iff_ne.2 hy
      subst hx
      have hFn := hide (show F = f by rw [unhide hF, if_neg (by rintro ⟨_, _, _, h⟩; exact hy h)])
      obtain ⟨e0, e1, e2⟩ := row3 (unhide R8)
      obtain ⟨f0, f1, f2⟩ := frozen3 (unhide R8)
      obtain ⟨q0, q1, q2⟩ := row3 (unhide R9)
      go_wp2_with fail
      refine bodyPost_ret (v := .agg #[.int .i64 x, .int .i64 y, .slice gp n gc]) (by simp [results, Try.results12, go_sem, e0, e1, e2]) rfl ⟨gp, gc, rfl, ?_, below_put3 (unhide HB) (unhide lz) _ _ _⟩
      obtain ⟨xs, o1, hx1⟩ := unhide hO
      rw [unhide hFn]
      exact ⟨xs, own_low (own_put3 o1 (fun k hk => by have := (unhide l1 k hk).1; have := unhide l0; omega) _ _ _) (unhide lW), hx1⟩
  · have hxb : (x == x') = false := beq_eq_false_iff_ne.2 hx
    have hFn := hide (show F = f by rw [unhide hF, if_neg (by rintro ⟨_, _, h, _⟩; exact hx h)])
    obtain ⟨e0, e1, e2⟩ := row3 (unhide R8)
    obtain ⟨f0, f1, f2⟩ := frozen3 (unhide R8)
    obtain ⟨q0, q1, q2⟩ := row3 (unhide R9)
    go_wp2_with fail
    refine bodyPost_ret (v := .agg #[.int .i64 x, .int .i64 y, .slice gp n gc]) (by simp [results, Try.results12, go_sem, e0, e1, e2]) rfl ⟨gp, gc, rfl, ?_, below_put3 (unhide HB) (unhide lz) _ _ _⟩
    obtain ⟨xs, o1, hx1⟩ := unhide hO
    rw [unhide hFn]
    exact ⟨xs, own_low (own_put3 o1 (fun k hk => by have := (unhide l1 k hk).1; have := unhide l0; omega) _ _ _) (unhide lW), hx1⟩
end Go.Proofs.Ythelfgippiimiac
