/-
  The walk of the law on moves.
-/
import Derived.Test.YtaaeegahlpmhpaaMovesP
import Derived.Test.YtaaeegahlpmhpaaDrawMv
import Derived.Test.YtaaeegahlpmhpaaDrawP
import Derived.Deep.RegionHeld3
import Derived.Deep.DeepCutAuto
import Derived.Deep.DeepFit
namespace Go.Proofs.Ytaaeegahlpmhpaa
open Go.RowKit
set_option linter.unusedVariables false

set_option maxHeartbeats 8000000 in
set_option maxRecDepth 100000 in
theorem fnMoves_walk (a0 : Option Addr) (len0 cap0 : Nat) (z0 : List Int) (w : World) (w0 : IsRow .u8 w a0 len0 cap0 z0) :
    Calls Try.prog 3 #[.slice a0 len0 cap0] w fun e w' => e = .returned (.bool true) ∧ Below w.heap.size w w' := by
  by_cases hl : len0 ≤ 1048576
  · have HI := hide (InB.of_row w0)
    clear w0
    go_enter Try.func3, Try.ntmps3
    dsimp only [List.append]
    go_wp2_with fail
    refine (big_no a0 len0 cap0 hl _).mono ?_
    rintro e w1 ⟨rfl, rfl⟩
    go_wp2_with fail
    refine (drawMoved_any a0 len0 cap0 _ hl (unhide HI)).mono ?_
    rintro r w2 ⟨a, b, c, d, e, f, x, y, hm, hx, hy, rfl, hb2⟩
    obtain ⟨⟨a1, a2⟩, ⟨b1, b2⟩, ⟨c1, c2⟩, ⟨d1, d2⟩, ⟨e1, e2⟩, ⟨f1, f2⟩⟩ := hm
    obtain ⟨x1, x2⟩ := hx
    obtain ⟨y1, y2⟩ := hy
    have sm : SmallM a b c d e f := ⟨⟨a1, a2⟩, ⟨b1, b2⟩, ⟨c1, c2⟩, ⟨d1, d2⟩, ⟨by omega, by omega⟩, ⟨by omega, by omega⟩⟩
    have sm' : SmallM a b c d (e + 5) (f + 9) := ⟨⟨a1, a2⟩, ⟨b1, b2⟩, ⟨c1, c2⟩, ⟨d1, d2⟩, ⟨by omega, by omega⟩, ⟨by omega, by omega⟩⟩
    have sp : SmallP x y := ⟨⟨by omega, by omega⟩, ⟨by omega, by omega⟩⟩
    have sq : SmallP (x + 70) (y + -30) := ⟨⟨by omega, by omega⟩, ⟨by omega, by omega⟩⟩
    have h1 := implApply_any 65536 0 0 65536 0 0 x y
    rw [(apply_shift (by decide) (by decide) sp).1, (apply_shift (by decide) (by decide) sp).2, Int.add_zero, Int.add_zero] at h1
    have h2 := implApply_any 65536 0 0 65536 70 (-30) x y
    rw [(apply_shift (by decide) (by decide) sp).1, (apply_shift (by decide) (by decide) sp).2] at h2
    have h3 := implApply_any 65536 0 0 65536 (-70) 30 (x + 70) (y + -30)
    rw [(apply_shift (by decide) (by decide) sq).1, (apply_shift (by decide) (by decide) sq).2, show x + 70 + -70 = x by omega, show y + -30 + 30 = y by omega] at h3
    have h4 := implCompose_any a b c d e f 65536 0 0 65536 0 0
    obtain ⟨j0, j1, j2, j3, j4, j5, j6⟩ := comp_still sm
    rw [j0, j1, j2, j3, j4, j5, j6] at h4
    have h5 := implCompose_any 65536 0 0 65536 0 0 a b c d e f
    obtain ⟨i0, i1, i2, i3, i4, i5, i6⟩ := comp_shift (s := 0) (t := 0) sm (by rw [Int.add_zero, Int.add_zero]; exact sm) (by decide) (by decide)
    rw [i0, i1, i2, i3, i4, i5, i6, Int.add_zero, Int.add_zero] at h5
    have h6 := implCompose_any 65536 0 0 65536 5 9 a b c d e f
    obtain ⟨l0, l1, l2, l3, l4, l5, l6⟩ := comp_shift sm sm' (by decide) (by decide)
    rw [l0, l1, l2, l3, l4, l5, l6] at h6
    obtain ⟨n1, n2, ⟨X1, X2⟩, ⟨Y1, Y2⟩⟩ := apply_more sm sm' sp (s := 5) (t := 9) (by decide) (by decide)
    have h7 := implApply_any a b c d e f x y
    have h8 := implApply_any a b c d (e + 5) (f + 9) x y
    rw [n1, n2] at h8
    have h9 := specApply_any a b c d e f x y
    have h10 := implMatOk_any a b c d e f
    rw [sm.ok] at h10
    have h11 := implPointOk_any x y
    rw [sp.ok] at h11
    generalize applyX a b c d e f x y = X at h7 h8 h9 X1 X2
    generalize applyY a b c d e f x y = Y at h7 h8 h9 Y1 Y2
    have H1 := hide h1
    have H2 := hide h2
    have H3 := hide h3
    have H4 := hide h4
    have H5 := hide h5
    have H6 := hide h6
    have H7 := hide h7
    have H8 := hide h8
    have H9 := hide h9
    have H10 := hide h10
    have H11 := hide h11
    have HSt := hide implStill_any
    have HS1 := hide (implShift_any 70 (-30))
    have HS2 := hide (implShift_any (-70) 30)
    have HS3 := hide (implShift_any 5 9)
    clear h1 h2 h3 h4 h5 h6 h7 h8 h9 h10 h11 sm sm' sp sq n1 n2 j0 j1 j2 j3 j4 j5 j6 i0 i1 i2 i3 i4 i5 i6 l0 l1 l2 l3 l4 l5 l6 HI
    go_wp2_with fail
    obtain ⟨U, hU⟩ : ∃ U, U = (w2.alloc (.cells #[.int .i64 a, .int .i64 b, .int .i64 c, .int .i64 d, .int .i64 e, .int .i64 f] 25)).alloc (.cells #[.int .i64 x, .int .i64 y] 27) := ⟨_, rfl⟩
    obtain ⟨m0, m1, m2, m3, m4, m5⟩ := row6 (w1 := U) (b := w2.heap.size) (by rw [hU]; exact al2_0 _ _ _)
    obtain ⟨p0, p1⟩ := row2 (w1 := U) (b := w2.heap.size + 1) (by rw [hU]; exact al2_1 _ _ _)
    have HB := hide (show Below w1.heap.size w1 U by rw [hU]; exact below_two hb2 (al2_below _ _ _))
    rw [← hU]
    clear hU hb2
    have k0 : ∀ u, Below U.heap.size U u → (u.cell? ⟨w2.heap.size + 1, 0, none⟩ = some (.int .i64 x) ∧ u.cell? ⟨w2.heap.size + 1, 1, none⟩ = some (.int .i64 y) ∧ Below U.heap.size U u) := fun u h => ⟨kc h p0, kc h p1, h⟩
    have kS : ∀ u, (u.cell? ⟨w2.heap.size + 1, 0, none⟩ = some (.int .i64 x) ∧ u.cell? ⟨w2.heap.size + 1, 1, none⟩ = some (.int .i64 y) ∧ Below U.heap.size U u) → Below U.heap.size U u := fun u h => h.2.2
    go_cut [5] (fun s u => ∃ kq, s = .pointer (some ⟨kq, 0, none⟩) ∧ u.cell? ⟨kq, 0, none⟩ = some (.int .i64 (x + 70)) ∧ u.cell? ⟨kq, 1, none⟩ = some (.int .i64 (y + -30)) ∧ Below U.heap.size U u)
    case first =>
      as_aux_lemma =>
        have hW0 : Below U.heap.size U U.drew := (Below.refl _ _).drew
        have hd : U.drew.heap.size = U.heap.size := rfl
        go_region_held3 (fun u => u.cell? ⟨w2.heap.size + 1, 0, none⟩ = some (.int .i64 x) ∧ u.cell? ⟨w2.heap.size + 1, 1, none⟩ = some (.int .i64 y) ∧ Below U.heap.size U u) ((refine k0 _ ?_; first | with_reducible assumption | (with_reducible refine below_new _ ?_ (Nat.le_refl _); with_reducible assumption) | (with_reducible refine Below.drew ?_; with_reducible exact below_new _ (Below.refl _ _) (Nat.le_refl _)) | (with_reducible refine below_put2 ?_ ?_ _ _ <;> first | with_reducible assumption | omega))) (first | (go_at_call 12; go_fit (unhide HS1 _); rintro r w1 ⟨rfl, hb1⟩; have hW1 := below_after hb1 (kS _ (by with_reducible assumption)) (Nat.le_refl _); have hsz := hb1.size; (first | (have zz := carry2 (.int .i64 0) (.int .i64 0) 27 hb1 (by with_reducible assumption); obtain ⟨z0, z1, v0, v1, hz, hzl⟩ := zz) | (have zz := carry2 (.int .i64 0) (.int .i64 0) 27 hb1 (al1_0 _ _); obtain ⟨z0, z1, v0, v1, hz, hzl⟩ := zz; try simp only [hd] at z0 z1 v0 v1 hz hzl) | skip)) | (go_at_call 11; go_fit (unhide H2 _); rintro r w1 ⟨rfl, hb1⟩; have hW1 := below_after hb1 (kS _ (by with_reducible assumption)) (Nat.le_refl _); have hsz := hb1.size; (first | (have zz := carry2 (.int .i64 0) (.int .i64 0) 27 hb1 (by with_reducible assumption); obtain ⟨z0, z1, v0, v1, hz, hzl⟩ := zz) | (have zz := carry2 (.int .i64 0) (.int .i64 0) 27 hb1 (al1_0 _ _); obtain ⟨z0, z1, v0, v1, hz, hzl⟩ := zz; try simp only [hd] at z0 z1 v0 v1 hz hzl) | skip)))
        all_goals
          go_wp2_with fail
          go_meet
          exact ⟨_, rfl, (by first | (rw [World.cell?_alloc_mark]; rfl) | exact put2_0 (by with_reducible assumption) _ _), (by first | (rw [World.cell?_alloc_mark]; rfl) | exact put2_1 (by with_reducible assumption) _ _), kS _ (by with_reducible assumption)⟩
    case rest =>
      obtain ⟨kq, rfl, q0, q1, hb⟩ := hcut
      replace m0 := kc hb m0
      replace m1 := kc hb m1
      replace m2 := kc hb m2
      replace m3 := kc hb m3
      replace m4 := kc hb m4
      replace m5 := kc hb m5
      replace p0 := kc hb p0
      replace p1 := kc hb p1
      have HB_q := hide (below_two (unhide HB) hb)
      clear HB hb k0 kS
      have HB := HB_q
      clear HB_q
      obtain ⟨Uq, hU⟩ : ∃ U, U = wc := ⟨_, rfl⟩
      subst hU
      go_wp2_with fail
      have k0 : ∀ u, Below Uq.heap.size Uq u → (u.cell? ⟨w2.heap.size, 0, none⟩ = some (.int .i64 a) ∧ u.cell? ⟨w2.heap.size, 1, none⟩ = some (.int .i64 b) ∧ u.cell? ⟨w2.heap.size, 2, none⟩ = some (.int .i64 c) ∧ u.cell? ⟨w2.heap.size, 3, none⟩ = some (.int .i64 d) ∧ u.cell? ⟨w2.heap.size, 4, none⟩ = some (.int .i64 e) ∧ u.cell? ⟨w2.heap.size, 5, none⟩ = some (.int .i64 f) ∧ Below Uq.heap.size Uq u) := fun u h => ⟨kc h m0, kc h m1, kc h m2, kc h m3, kc h m4, kc h m5, h⟩
      have kS : ∀ u, (u.cell? ⟨w2.heap.size, 0, none⟩ = some (.int .i64 a) ∧ u.cell? ⟨w2.heap.size, 1, none⟩ = some (.int .i64 b) ∧ u.cell? ⟨w2.heap.size, 2, none⟩ = some (.int .i64 c) ∧ u.cell? ⟨w2.heap.size, 3, none⟩ = some (.int .i64 d) ∧ u.cell? ⟨w2.heap.size, 4, none⟩ = some (.int .i64 e) ∧ u.cell? ⟨w2.heap.size, 5, none⟩ = some (.int .i64 f) ∧ Below Uq.heap.size Uq u) → Below Uq.heap.size Uq u := fun u h => h.2.2.2.2.2.2
      go_cut [6, 7] (fun s t u => t = .bool true ∧ ∃ kg, s = .pointer (some ⟨kg, 0, none⟩) ∧ u.cell? ⟨kg, 0, none⟩ = some (.int .i64 a) ∧ u.cell? ⟨kg, 1, none⟩ = some (.int .i64 b) ∧ u.cell? ⟨kg, 2, none⟩ = some (.int .i64 c) ∧ u.cell? ⟨kg, 3, none⟩ = some (.int .i64 d) ∧ u.cell? ⟨kg, 4, none⟩ = some (.int .i64 e) ∧ u.cell? ⟨kg, 5, none⟩ = some (.int .i64 f) ∧ Below Uq.heap.size Uq u)
      case first =>
        as_aux_lemma =>
          have hW0 : Below Uq.heap.size Uq Uq.drew := (Below.refl _ _).drew
          have hd : Uq.drew.heap.size = Uq.heap.size := rfl
          go_region_held3 (fun u => u.cell? ⟨w2.heap.size, 0, none⟩ = some (.int .i64 a) ∧ u.cell? ⟨w2.heap.size, 1, none⟩ = some (.int .i64 b) ∧ u.cell? ⟨w2.heap.size, 2, none⟩ = some (.int .i64 c) ∧ u.cell? ⟨w2.heap.size, 3, none⟩ = some (.int .i64 d) ∧ u.cell? ⟨w2.heap.size, 4, none⟩ = some (.int .i64 e) ∧ u.cell? ⟨w2.heap.size, 5, none⟩ = some (.int .i64 f) ∧ Below Uq.heap.size Uq u) ((refine k0 _ ?_; first | with_reducible assumption | (with_reducible refine below_new _ ?_ (Nat.le_refl _); with_reducible assumption) | (with_reducible refine Below.drew ?_; with_reducible exact below_new _ (Below.refl _ _) (Nat.le_refl _)) | (with_reducible refine below_put6 ?_ ?_ _ _ _ _ _ _ <;> first | with_reducible assumption | omega))) (first | (go_at_call 14; go_fit (unhide HSt _); rintro r w1 ⟨rfl, hb1⟩; have hW1 := below_after hb1 (kS _ (by with_reducible assumption)) (Nat.le_refl _); have hsz := hb1.size; (first | (have zz := carry6 (.int .i64 0) (.int .i64 0) (.int .i64 0) (.int .i64 0) (.int .i64 0) (.int .i64 0) 25 hb1 (by with_reducible assumption); obtain ⟨z0, z1, z2, z3, z4, z5, v0, v1, v2, v3, v4, v5, hz, hzl⟩ := zz) | (have zz := carry6 (.int .i64 0) (.int .i64 0) (.int .i64 0) (.int .i64 0) (.int .i64 0) (.int .i64 0) 25 hb1 (al1_0 _ _); obtain ⟨z0, z1, z2, z3, z4, z5, v0, v1, v2, v3, v4, v5, hz, hzl⟩ := zz; try simp only [hd] at z0 z1 z2 z3 z4 z5 v0 v1 v2 v3 v4 v5 hz hzl) | skip)) | (go_at_call 13; go_fit (unhide H4 _); rintro r w1 ⟨rfl, hb1⟩; have hW1 := below_after hb1 (kS _ (by with_reducible assumption)) (Nat.le_refl _); have hsz := hb1.size; (first | (have zz := carry6 (.int .i64 0) (.int .i64 0) (.int .i64 0) (.int .i64 0) (.int .i64 0) (.int .i64 0) 25 hb1 (by with_reducible assumption); obtain ⟨z0, z1, z2, z3, z4, z5, v0, v1, v2, v3, v4, v5, hz, hzl⟩ := zz) | (have zz := carry6 (.int .i64 0) (.int .i64 0) (.int .i64 0) (.int .i64 0) (.int .i64 0) (.int .i64 0) 25 hb1 (al1_0 _ _); obtain ⟨z0, z1, z2, z3, z4, z5, v0, v1, v2, v3, v4, v5, hz, hzl⟩ := zz; try simp only [hd] at z0 z1 z2 z3 z4 z5 v0 v1 v2 v3 v4 v5 hz hzl) | skip)))
          all_goals
            go_wp2_with fail
            go_meet
            exact ⟨rfl, _, rfl, (by first | (rw [World.cell?_alloc_mark]; rfl) | exact put6_0 (by with_reducible assumption) _ _ _ _ _ _), (by first | (rw [World.cell?_alloc_mark]; rfl) | exact put6_1 (by with_reducible assumption) _ _ _ _ _ _), (by first | (rw [World.cell?_alloc_mark]; rfl) | exact put6_2 (by with_reducible assumption) _ _ _ _ _ _), (by first | (rw [World.cell?_alloc_mark]; rfl) | exact put6_3 (by with_reducible assumption) _ _ _ _ _ _), (by first | (rw [World.cell?_alloc_mark]; rfl) | exact put6_4 (by with_reducible assumption) _ _ _ _ _ _), (by first | (rw [World.cell?_alloc_mark]; rfl) | exact put6_5 (by with_reducible assumption) _ _ _ _ _ _), kS _ (by with_reducible assumption)⟩
      case rest =>
        obtain ⟨rfl, kg, rfl, g0, g1, g2, g3, g4, g5, hb⟩ := hcut
        replace m0 := kc hb m0
        replace m1 := kc hb m1
        replace m2 := kc hb m2
        replace m3 := kc hb m3
        replace m4 := kc hb m4
        replace m5 := kc hb m5
        replace p0 := kc hb p0
        replace p1 := kc hb p1
        replace q0 := kc hb q0
        replace q1 := kc hb q1
        have HB_g := hide (below_two (unhide HB) hb)
        clear HB hb k0 kS
        have HB := HB_g
        clear HB_g
        obtain ⟨Ug, hU⟩ : ∃ U, U = wc := ⟨_, rfl⟩
        subst hU
        go_wp2_with fail
        have k0 : ∀ u, Below Ug.heap.size Ug u → (u.cell? ⟨w2.heap.size, 0, none⟩ = some (.int .i64 a) ∧ u.cell? ⟨w2.heap.size, 1, none⟩ = some (.int .i64 b) ∧ u.cell? ⟨w2.heap.size, 2, none⟩ = some (.int .i64 c) ∧ u.cell? ⟨w2.heap.size, 3, none⟩ = some (.int .i64 d) ∧ u.cell? ⟨w2.heap.size, 4, none⟩ = some (.int .i64 e) ∧ u.cell? ⟨w2.heap.size, 5, none⟩ = some (.int .i64 f) ∧ Below Ug.heap.size Ug u) := fun u h => ⟨kc h m0, kc h m1, kc h m2, kc h m3, kc h m4, kc h m5, h⟩
        have kS : ∀ u, (u.cell? ⟨w2.heap.size, 0, none⟩ = some (.int .i64 a) ∧ u.cell? ⟨w2.heap.size, 1, none⟩ = some (.int .i64 b) ∧ u.cell? ⟨w2.heap.size, 2, none⟩ = some (.int .i64 c) ∧ u.cell? ⟨w2.heap.size, 3, none⟩ = some (.int .i64 d) ∧ u.cell? ⟨w2.heap.size, 4, none⟩ = some (.int .i64 e) ∧ u.cell? ⟨w2.heap.size, 5, none⟩ = some (.int .i64 f) ∧ Below Ug.heap.size Ug u) → Below Ug.heap.size Ug u := fun u h => h.2.2.2.2.2.2
        go_cut [8, 9] (fun s t u => t = .bool true ∧ ∃ kh, s = .pointer (some ⟨kh, 0, none⟩) ∧ u.cell? ⟨kh, 0, none⟩ = some (.int .i64 a) ∧ u.cell? ⟨kh, 1, none⟩ = some (.int .i64 b) ∧ u.cell? ⟨kh, 2, none⟩ = some (.int .i64 c) ∧ u.cell? ⟨kh, 3, none⟩ = some (.int .i64 d) ∧ u.cell? ⟨kh, 4, none⟩ = some (.int .i64 e) ∧ u.cell? ⟨kh, 5, none⟩ = some (.int .i64 f) ∧ Below Ug.heap.size Ug u)
        case first =>
          as_aux_lemma =>
            have hW0 : Below Ug.heap.size Ug Ug.drew := (Below.refl _ _).drew
            have hd : Ug.drew.heap.size = Ug.heap.size := rfl
            go_region_held3 (fun u => u.cell? ⟨w2.heap.size, 0, none⟩ = some (.int .i64 a) ∧ u.cell? ⟨w2.heap.size, 1, none⟩ = some (.int .i64 b) ∧ u.cell? ⟨w2.heap.size, 2, none⟩ = some (.int .i64 c) ∧ u.cell? ⟨w2.heap.size, 3, none⟩ = some (.int .i64 d) ∧ u.cell? ⟨w2.heap.size, 4, none⟩ = some (.int .i64 e) ∧ u.cell? ⟨w2.heap.size, 5, none⟩ = some (.int .i64 f) ∧ Below Ug.heap.size Ug u) ((refine k0 _ ?_; first | with_reducible assumption | (with_reducible refine below_new _ ?_ (Nat.le_refl _); with_reducible assumption) | (with_reducible refine Below.drew ?_; with_reducible exact below_new _ (Below.refl _ _) (Nat.le_refl _)) | (with_reducible refine below_put6 ?_ ?_ _ _ _ _ _ _ <;> first | with_reducible assumption | omega))) (first | (go_at_call 14; go_fit (unhide HSt _); rintro r w1 ⟨rfl, hb1⟩; have hW1 := below_after hb1 (kS _ (by with_reducible assumption)) (Nat.le_refl _); have hsz := hb1.size; (first | (have zz := carry6 (.int .i64 0) (.int .i64 0) (.int .i64 0) (.int .i64 0) (.int .i64 0) (.int .i64 0) 25 hb1 (by with_reducible assumption); obtain ⟨z0, z1, z2, z3, z4, z5, v0, v1, v2, v3, v4, v5, hz, hzl⟩ := zz) | (have zz := carry6 (.int .i64 0) (.int .i64 0) (.int .i64 0) (.int .i64 0) (.int .i64 0) (.int .i64 0) 25 hb1 (al1_0 _ _); obtain ⟨z0, z1, z2, z3, z4, z5, v0, v1, v2, v3, v4, v5, hz, hzl⟩ := zz; try simp only [hd] at z0 z1 z2 z3 z4 z5 v0 v1 v2 v3 v4 v5 hz hzl) | skip)) | (go_at_call 13; go_fit (unhide H5 _); rintro r w1 ⟨rfl, hb1⟩; have hW1 := below_after hb1 (kS _ (by with_reducible assumption)) (Nat.le_refl _); have hsz := hb1.size; (first | (have zz := carry6 (.int .i64 0) (.int .i64 0) (.int .i64 0) (.int .i64 0) (.int .i64 0) (.int .i64 0) 25 hb1 (by with_reducible assumption); obtain ⟨z0, z1, z2, z3, z4, z5, v0, v1, v2, v3, v4, v5, hz, hzl⟩ := zz) | (have zz := carry6 (.int .i64 0) (.int .i64 0) (.int .i64 0) (.int .i64 0) (.int .i64 0) (.int .i64 0) 25 hb1 (al1_0 _ _); obtain ⟨z0, z1, z2, z3, z4, z5, v0, v1, v2, v3, v4, v5, hz, hzl⟩ := zz; try simp only [hd] at z0 z1 z2 z3 z4 z5 v0 v1 v2 v3 v4 v5 hz hzl) | skip)))
            all_goals
              go_wp2_with fail
              go_meet
              exact ⟨rfl, _, rfl, (by first | (rw [World.cell?_alloc_mark]; rfl) | exact put6_0 (by with_reducible assumption) _ _ _ _ _ _), (by first | (rw [World.cell?_alloc_mark]; rfl) | exact put6_1 (by with_reducible assumption) _ _ _ _ _ _), (by first | (rw [World.cell?_alloc_mark]; rfl) | exact put6_2 (by with_reducible assumption) _ _ _ _ _ _), (by first | (rw [World.cell?_alloc_mark]; rfl) | exact put6_3 (by with_reducible assumption) _ _ _ _ _ _), (by first | (rw [World.cell?_alloc_mark]; rfl) | exact put6_4 (by with_reducible assumption) _ _ _ _ _ _), (by first | (rw [World.cell?_alloc_mark]; rfl) | exact put6_5 (by with_reducible assumption) _ _ _ _ _ _), kS _ (by with_reducible assumption)⟩
        case rest =>
          obtain ⟨rfl, kh, rfl, h0, h1, h2, h3, h4, h5, hb⟩ := hcut
          replace m0 := kc hb m0
          replace m1 := kc hb m1
          replace m2 := kc hb m2
          replace m3 := kc hb m3
          replace m4 := kc hb m4
          replace m5 := kc hb m5
          replace p0 := kc hb p0
          replace p1 := kc hb p1
          replace q0 := kc hb q0
          replace q1 := kc hb q1
          replace g0 := kc hb g0
          replace g1 := kc hb g1
          replace g2 := kc hb g2
          replace g3 := kc hb g3
          replace g4 := kc hb g4
          replace g5 := kc hb g5
          have HB_h := hide (below_two (unhide HB) hb)
          clear HB hb k0 kS
          have HB := HB_h
          clear HB_h
          obtain ⟨Uh, hU⟩ : ∃ U, U = wc := ⟨_, rfl⟩
          subst hU
          go_wp2_with fail
          have k0 : ∀ u, Below Uh.heap.size Uh u → (u.cell? ⟨w2.heap.size, 0, none⟩ = some (.int .i64 a) ∧ u.cell? ⟨w2.heap.size, 1, none⟩ = some (.int .i64 b) ∧ u.cell? ⟨w2.heap.size, 2, none⟩ = some (.int .i64 c) ∧ u.cell? ⟨w2.heap.size, 3, none⟩ = some (.int .i64 d) ∧ u.cell? ⟨w2.heap.size, 4, none⟩ = some (.int .i64 e) ∧ u.cell? ⟨w2.heap.size, 5, none⟩ = some (.int .i64 f) ∧ Below Uh.heap.size Uh u) := fun u h => ⟨kc h m0, kc h m1, kc h m2, kc h m3, kc h m4, kc h m5, h⟩
          have kS : ∀ u, (u.cell? ⟨w2.heap.size, 0, none⟩ = some (.int .i64 a) ∧ u.cell? ⟨w2.heap.size, 1, none⟩ = some (.int .i64 b) ∧ u.cell? ⟨w2.heap.size, 2, none⟩ = some (.int .i64 c) ∧ u.cell? ⟨w2.heap.size, 3, none⟩ = some (.int .i64 d) ∧ u.cell? ⟨w2.heap.size, 4, none⟩ = some (.int .i64 e) ∧ u.cell? ⟨w2.heap.size, 5, none⟩ = some (.int .i64 f) ∧ Below Uh.heap.size Uh u) → Below Uh.heap.size Uh u := fun u h => h.2.2.2.2.2.2
          go_cut [10, 11] (fun s t u => t = .bool true ∧ ∃ ks, s = .pointer (some ⟨ks, 0, none⟩) ∧ u.cell? ⟨ks, 0, none⟩ = some (.int .i64 a) ∧ u.cell? ⟨ks, 1, none⟩ = some (.int .i64 b) ∧ u.cell? ⟨ks, 2, none⟩ = some (.int .i64 c) ∧ u.cell? ⟨ks, 3, none⟩ = some (.int .i64 d) ∧ u.cell? ⟨ks, 4, none⟩ = some (.int .i64 (e + 5)) ∧ u.cell? ⟨ks, 5, none⟩ = some (.int .i64 (f + 9)) ∧ Below Uh.heap.size Uh u)
          case first =>
            as_aux_lemma =>
              have hW0 : Below Uh.heap.size Uh Uh.drew := (Below.refl _ _).drew
              have hd : Uh.drew.heap.size = Uh.heap.size := rfl
              go_region_held3 (fun u => u.cell? ⟨w2.heap.size, 0, none⟩ = some (.int .i64 a) ∧ u.cell? ⟨w2.heap.size, 1, none⟩ = some (.int .i64 b) ∧ u.cell? ⟨w2.heap.size, 2, none⟩ = some (.int .i64 c) ∧ u.cell? ⟨w2.heap.size, 3, none⟩ = some (.int .i64 d) ∧ u.cell? ⟨w2.heap.size, 4, none⟩ = some (.int .i64 e) ∧ u.cell? ⟨w2.heap.size, 5, none⟩ = some (.int .i64 f) ∧ Below Uh.heap.size Uh u) ((refine k0 _ ?_; first | with_reducible assumption | (with_reducible refine below_new _ ?_ (Nat.le_refl _); with_reducible assumption) | (with_reducible refine Below.drew ?_; with_reducible exact below_new _ (Below.refl _ _) (Nat.le_refl _)) | (with_reducible refine below_put6 ?_ ?_ _ _ _ _ _ _ <;> first | with_reducible assumption | omega))) (first | (go_at_call 12; go_fit (unhide HS3 _); rintro r w1 ⟨rfl, hb1⟩; have hW1 := below_after hb1 (kS _ (by with_reducible assumption)) (Nat.le_refl _); have hsz := hb1.size; (first | (have zz := carry6 (.int .i64 0) (.int .i64 0) (.int .i64 0) (.int .i64 0) (.int .i64 0) (.int .i64 0) 25 hb1 (by with_reducible assumption); obtain ⟨z0, z1, z2, z3, z4, z5, v0, v1, v2, v3, v4, v5, hz, hzl⟩ := zz) | (have zz := carry6 (.int .i64 0) (.int .i64 0) (.int .i64 0) (.int .i64 0) (.int .i64 0) (.int .i64 0) 25 hb1 (al1_0 _ _); obtain ⟨z0, z1, z2, z3, z4, z5, v0, v1, v2, v3, v4, v5, hz, hzl⟩ := zz; try simp only [hd] at z0 z1 z2 z3 z4 z5 v0 v1 v2 v3 v4 v5 hz hzl) | skip)) | (go_at_call 13; go_fit (unhide H6 _); rintro r w1 ⟨rfl, hb1⟩; have hW1 := below_after hb1 (kS _ (by with_reducible assumption)) (Nat.le_refl _); have hsz := hb1.size; (first | (have zz := carry6 (.int .i64 0) (.int .i64 0) (.int .i64 0) (.int .i64 0) (.int .i64 0) (.int .i64 0) 25 hb1 (by with_reducible assumption); obtain ⟨z0, z1, z2, z3, z4, z5, v0, v1, v2, v3, v4, v5, hz, hzl⟩ := zz) | (have zz := carry6 (.int .i64 0) (.int .i64 0) (.int .i64 0) (.int .i64 0) (.int .i64 0) (.int .i64 0) 25 hb1 (al1_0 _ _); obtain ⟨z0, z1, z2, z3, z4, z5, v0, v1, v2, v3, v4, v5, hz, hzl⟩ := zz; try simp only [hd] at z0 z1 z2 z3 z4 z5 v0 v1 v2 v3 v4 v5 hz hzl) | skip)))
              all_goals
                go_wp2_with fail
                go_meet
                exact ⟨rfl, _, rfl, (by first | (rw [World.cell?_alloc_mark]; rfl) | exact put6_0 (by with_reducible assumption) _ _ _ _ _ _), (by first | (rw [World.cell?_alloc_mark]; rfl) | exact put6_1 (by with_reducible assumption) _ _ _ _ _ _), (by first | (rw [World.cell?_alloc_mark]; rfl) | exact put6_2 (by with_reducible assumption) _ _ _ _ _ _), (by first | (rw [World.cell?_alloc_mark]; rfl) | exact put6_3 (by with_reducible assumption) _ _ _ _ _ _), (by first | (rw [World.cell?_alloc_mark]; rfl) | exact put6_4 (by with_reducible assumption) _ _ _ _ _ _), (by first | (rw [World.cell?_alloc_mark]; rfl) | exact put6_5 (by with_reducible assumption) _ _ _ _ _ _), kS _ (by with_reducible assumption)⟩
          case rest =>
            obtain ⟨rfl, ks, rfl, s0, s1, s2, s3, s4, s5, hb⟩ := hcut
            replace m0 := kc hb m0
            replace m1 := kc hb m1
            replace m2 := kc hb m2
            replace m3 := kc hb m3
            replace m4 := kc hb m4
            replace m5 := kc hb m5
            replace p0 := kc hb p0
            replace p1 := kc hb p1
            replace q0 := kc hb q0
            replace q1 := kc hb q1
            replace g0 := kc hb g0
            replace g1 := kc hb g1
            replace g2 := kc hb g2
            replace g3 := kc hb g3
            replace g4 := kc hb g4
            replace g5 := kc hb g5
            replace h0 := kc hb h0
            replace h1 := kc hb h1
            replace h2 := kc hb h2
            replace h3 := kc hb h3
            replace h4 := kc hb h4
            replace h5 := kc hb h5
            have HB_s := hide (below_two (unhide HB) hb)
            clear HB hb k0 kS
            have HB := HB_s
            clear HB_s
            obtain ⟨Us, hU⟩ : ∃ U, U = wc := ⟨_, rfl⟩
            subst hU
            go_wp2_with fail
            go_fit (unhide H7 _)
            rintro r v1 ⟨rfl, hb⟩
            replace m0 := kc hb m0
            replace m1 := kc hb m1
            replace m2 := kc hb m2
            replace m3 := kc hb m3
            replace m4 := kc hb m4
            replace m5 := kc hb m5
            replace p0 := kc hb p0
            replace p1 := kc hb p1
            replace q0 := kc hb q0
            replace q1 := kc hb q1
            replace g0 := kc hb g0
            replace g1 := kc hb g1
            replace g2 := kc hb g2
            replace g3 := kc hb g3
            replace g4 := kc hb g4
            replace g5 := kc hb g5
            replace h0 := kc hb h0
            replace h1 := kc hb h1
            replace h2 := kc hb h2
            replace h3 := kc hb h3
            replace h4 := kc hb h4
            replace h5 := kc hb h5
            replace s0 := kc hb s0
            replace s1 := kc hb s1
            replace s2 := kc hb s2
            replace s3 := kc hb s3
            replace s4 := kc hb s4
            replace s5 := kc hb s5
            replace HB := hide (below_two (unhide HB) hb)
            clear hb
            have nm0 := fun o => kn o m0
            have nm1 := fun o => kn o m1
            have nm2 := fun o => kn o m2
            have nm3 := fun o => kn o m3
            have nm4 := fun o => kn o m4
            have nm5 := fun o => kn o m5
            have np0 := fun o => kn o p0
            have np1 := fun o => kn o p1
            have nq0 := fun o => kn o q0
            have nq1 := fun o => kn o q1
            have ng0 := fun o => kn o g0
            have ng1 := fun o => kn o g1
            have ng2 := fun o => kn o g2
            have ng3 := fun o => kn o g3
            have ng4 := fun o => kn o g4
            have ng5 := fun o => kn o g5
            have nh0 := fun o => kn o h0
            have nh1 := fun o => kn o h1
            have nh2 := fun o => kn o h2
            have nh3 := fun o => kn o h3
            have nh4 := fun o => kn o h4
            have nh5 := fun o => kn o h5
            have ns0 := fun o => kn o s0
            have ns1 := fun o => kn o s1
            have ns2 := fun o => kn o s2
            have ns3 := fun o => kn o s3
            have ns4 := fun o => kn o s4
            have ns5 := fun o => kn o s5
            go_wp2_with fail
            clear nm0 nm1 nm2 nm3 nm4 nm5 np0 np1 nq0 nq1 ng0 ng1 ng2 ng3 ng4 ng5 nh0 nh1 nh2 nh3 nh4 nh5 ns0 ns1 ns2 ns3 ns4 ns5
            obtain ⟨V1, hV⟩ : ∃ V, V = v1.alloc (.cells #[.int .i64 X, .int .i64 Y] 27) := ⟨_, rfl⟩
            replace m0 := kn (.cells #[.int .i64 X, .int .i64 Y] 27) m0
            replace m1 := kn (.cells #[.int .i64 X, .int .i64 Y] 27) m1
            replace m2 := kn (.cells #[.int .i64 X, .int .i64 Y] 27) m2
            replace m3 := kn (.cells #[.int .i64 X, .int .i64 Y] 27) m3
            replace m4 := kn (.cells #[.int .i64 X, .int .i64 Y] 27) m4
            replace m5 := kn (.cells #[.int .i64 X, .int .i64 Y] 27) m5
            replace p0 := kn (.cells #[.int .i64 X, .int .i64 Y] 27) p0
            replace p1 := kn (.cells #[.int .i64 X, .int .i64 Y] 27) p1
            replace q0 := kn (.cells #[.int .i64 X, .int .i64 Y] 27) q0
            replace q1 := kn (.cells #[.int .i64 X, .int .i64 Y] 27) q1
            replace g0 := kn (.cells #[.int .i64 X, .int .i64 Y] 27) g0
            replace g1 := kn (.cells #[.int .i64 X, .int .i64 Y] 27) g1
            replace g2 := kn (.cells #[.int .i64 X, .int .i64 Y] 27) g2
            replace g3 := kn (.cells #[.int .i64 X, .int .i64 Y] 27) g3
            replace g4 := kn (.cells #[.int .i64 X, .int .i64 Y] 27) g4
            replace g5 := kn (.cells #[.int .i64 X, .int .i64 Y] 27) g5
            replace h0 := kn (.cells #[.int .i64 X, .int .i64 Y] 27) h0
            replace h1 := kn (.cells #[.int .i64 X, .int .i64 Y] 27) h1
            replace h2 := kn (.cells #[.int .i64 X, .int .i64 Y] 27) h2
            replace h3 := kn (.cells #[.int .i64 X, .int .i64 Y] 27) h3
            replace h4 := kn (.cells #[.int .i64 X, .int .i64 Y] 27) h4
            replace h5 := kn (.cells #[.int .i64 X, .int .i64 Y] 27) h5
            replace s0 := kn (.cells #[.int .i64 X, .int .i64 Y] 27) s0
            replace s1 := kn (.cells #[.int .i64 X, .int .i64 Y] 27) s1
            replace s2 := kn (.cells #[.int .i64 X, .int .i64 Y] 27) s2
            replace s3 := kn (.cells #[.int .i64 X, .int .i64 Y] 27) s3
            replace s4 := kn (.cells #[.int .i64 X, .int .i64 Y] 27) s4
            replace s5 := kn (.cells #[.int .i64 X, .int .i64 Y] 27) s5
            rw [← hV] at m0
            rw [← hV] at m1
            rw [← hV] at m2
            rw [← hV] at m3
            rw [← hV] at m4
            rw [← hV] at m5
            rw [← hV] at p0
            rw [← hV] at p1
            rw [← hV] at q0
            rw [← hV] at q1
            rw [← hV] at g0
            rw [← hV] at g1
            rw [← hV] at g2
            rw [← hV] at g3
            rw [← hV] at g4
            rw [← hV] at g5
            rw [← hV] at h0
            rw [← hV] at h1
            rw [← hV] at h2
            rw [← hV] at h3
            rw [← hV] at h4
            rw [← hV] at h5
            rw [← hV] at s0
            rw [← hV] at s1
            rw [← hV] at s2
            rw [← hV] at s3
            rw [← hV] at s4
            rw [← hV] at s5
            obtain ⟨r0, r1⟩ := row2 (w1 := V1) (b := v1.heap.size) (by rw [hV]; exact al1_0 _ _)
            replace HB := hide (show Below w1.heap.size w1 V1 by rw [hV]; exact below_two (unhide HB) (al1_below _ _))
            rw [← hV]
            clear hV
            go_fit (unhide H8 _)
            rintro r v2 ⟨rfl, hb⟩
            replace m0 := kc hb m0
            replace m1 := kc hb m1
            replace m2 := kc hb m2
            replace m3 := kc hb m3
            replace m4 := kc hb m4
            replace m5 := kc hb m5
            replace p0 := kc hb p0
            replace p1 := kc hb p1
            replace q0 := kc hb q0
            replace q1 := kc hb q1
            replace g0 := kc hb g0
            replace g1 := kc hb g1
            replace g2 := kc hb g2
            replace g3 := kc hb g3
            replace g4 := kc hb g4
            replace g5 := kc hb g5
            replace h0 := kc hb h0
            replace h1 := kc hb h1
            replace h2 := kc hb h2
            replace h3 := kc hb h3
            replace h4 := kc hb h4
            replace h5 := kc hb h5
            replace s0 := kc hb s0
            replace s1 := kc hb s1
            replace s2 := kc hb s2
            replace s3 := kc hb s3
            replace s4 := kc hb s4
            replace s5 := kc hb s5
            replace r0 := kc hb r0
            replace r1 := kc hb r1
            replace HB := hide (below_two (unhide HB) hb)
            clear hb
            have nm0 := fun o => kn o m0
            have nm1 := fun o => kn o m1
            have nm2 := fun o => kn o m2
            have nm3 := fun o => kn o m3
            have nm4 := fun o => kn o m4
            have nm5 := fun o => kn o m5
            have np0 := fun o => kn o p0
            have np1 := fun o => kn o p1
            have nq0 := fun o => kn o q0
            have nq1 := fun o => kn o q1
            have ng0 := fun o => kn o g0
            have ng1 := fun o => kn o g1
            have ng2 := fun o => kn o g2
            have ng3 := fun o => kn o g3
            have ng4 := fun o => kn o g4
            have ng5 := fun o => kn o g5
            have nh0 := fun o => kn o h0
            have nh1 := fun o => kn o h1
            have nh2 := fun o => kn o h2
            have nh3 := fun o => kn o h3
            have nh4 := fun o => kn o h4
            have nh5 := fun o => kn o h5
            have ns0 := fun o => kn o s0
            have ns1 := fun o => kn o s1
            have ns2 := fun o => kn o s2
            have ns3 := fun o => kn o s3
            have ns4 := fun o => kn o s4
            have ns5 := fun o => kn o s5
            have nr0 := fun o => kn o r0
            have nr1 := fun o => kn o r1
            go_wp2_with fail
            clear nm0 nm1 nm2 nm3 nm4 nm5 np0 np1 nq0 nq1 ng0 ng1 ng2 ng3 ng4 ng5 nh0 nh1 nh2 nh3 nh4 nh5 ns0 ns1 ns2 ns3 ns4 ns5 nr0 nr1
            obtain ⟨V2, hV⟩ : ∃ V, V = v2.alloc (.cells #[.int .i64 (X + 5), .int .i64 (Y + 9)] 27) := ⟨_, rfl⟩
            replace m0 := kn (.cells #[.int .i64 (X + 5), .int .i64 (Y + 9)] 27) m0
            replace m1 := kn (.cells #[.int .i64 (X + 5), .int .i64 (Y + 9)] 27) m1
            replace m2 := kn (.cells #[.int .i64 (X + 5), .int .i64 (Y + 9)] 27) m2
            replace m3 := kn (.cells #[.int .i64 (X + 5), .int .i64 (Y + 9)] 27) m3
            replace m4 := kn (.cells #[.int .i64 (X + 5), .int .i64 (Y + 9)] 27) m4
            replace m5 := kn (.cells #[.int .i64 (X + 5), .int .i64 (Y + 9)] 27) m5
            replace p0 := kn (.cells #[.int .i64 (X + 5), .int .i64 (Y + 9)] 27) p0
            replace p1 := kn (.cells #[.int .i64 (X + 5), .int .i64 (Y + 9)] 27) p1
            replace q0 := kn (.cells #[.int .i64 (X + 5), .int .i64 (Y + 9)] 27) q0
            replace q1 := kn (.cells #[.int .i64 (X + 5), .int .i64 (Y + 9)] 27) q1
            replace g0 := kn (.cells #[.int .i64 (X + 5), .int .i64 (Y + 9)] 27) g0
            replace g1 := kn (.cells #[.int .i64 (X + 5), .int .i64 (Y + 9)] 27) g1
            replace g2 := kn (.cells #[.int .i64 (X + 5), .int .i64 (Y + 9)] 27) g2
            replace g3 := kn (.cells #[.int .i64 (X + 5), .int .i64 (Y + 9)] 27) g3
            replace g4 := kn (.cells #[.int .i64 (X + 5), .int .i64 (Y + 9)] 27) g4
            replace g5 := kn (.cells #[.int .i64 (X + 5), .int .i64 (Y + 9)] 27) g5
            replace h0 := kn (.cells #[.int .i64 (X + 5), .int .i64 (Y + 9)] 27) h0
            replace h1 := kn (.cells #[.int .i64 (X + 5), .int .i64 (Y + 9)] 27) h1
            replace h2 := kn (.cells #[.int .i64 (X + 5), .int .i64 (Y + 9)] 27) h2
            replace h3 := kn (.cells #[.int .i64 (X + 5), .int .i64 (Y + 9)] 27) h3
            replace h4 := kn (.cells #[.int .i64 (X + 5), .int .i64 (Y + 9)] 27) h4
            replace h5 := kn (.cells #[.int .i64 (X + 5), .int .i64 (Y + 9)] 27) h5
            replace s0 := kn (.cells #[.int .i64 (X + 5), .int .i64 (Y + 9)] 27) s0
            replace s1 := kn (.cells #[.int .i64 (X + 5), .int .i64 (Y + 9)] 27) s1
            replace s2 := kn (.cells #[.int .i64 (X + 5), .int .i64 (Y + 9)] 27) s2
            replace s3 := kn (.cells #[.int .i64 (X + 5), .int .i64 (Y + 9)] 27) s3
            replace s4 := kn (.cells #[.int .i64 (X + 5), .int .i64 (Y + 9)] 27) s4
            replace s5 := kn (.cells #[.int .i64 (X + 5), .int .i64 (Y + 9)] 27) s5
            replace r0 := kn (.cells #[.int .i64 (X + 5), .int .i64 (Y + 9)] 27) r0
            replace r1 := kn (.cells #[.int .i64 (X + 5), .int .i64 (Y + 9)] 27) r1
            rw [← hV] at m0
            rw [← hV] at m1
            rw [← hV] at m2
            rw [← hV] at m3
            rw [← hV] at m4
            rw [← hV] at m5
            rw [← hV] at p0
            rw [← hV] at p1
            rw [← hV] at q0
            rw [← hV] at q1
            rw [← hV] at g0
            rw [← hV] at g1
            rw [← hV] at g2
            rw [← hV] at g3
            rw [← hV] at g4
            rw [← hV] at g5
            rw [← hV] at h0
            rw [← hV] at h1
            rw [← hV] at h2
            rw [← hV] at h3
            rw [← hV] at h4
            rw [← hV] at h5
            rw [← hV] at s0
            rw [← hV] at s1
            rw [← hV] at s2
            rw [← hV] at s3
            rw [← hV] at s4
            rw [← hV] at s5
            rw [← hV] at r0
            rw [← hV] at r1
            obtain ⟨t0, t1⟩ := row2 (w1 := V2) (b := v2.heap.size) (by rw [hV]; exact al1_0 _ _)
            replace HB := hide (show Below w1.heap.size w1 V2 by rw [hV]; exact below_two (unhide HB) (al1_below _ _))
            rw [← hV]
            clear hV
            clear s0 s1 s2 s3 s4 s5
            have ov1 : IntKind.i64.wrap (x + 70) = x + 70 := IntWalk.i64_in _ (by omega)
            have ov2 : IntKind.i64.wrap (y - 30) = y + -30 := (IntWalk.i64_in _ (by omega)).trans (by omega)
            have ov3 : IntKind.i64.wrap (X + 5) = X + 5 := IntWalk.i64_in _ (by omega)
            have ov4 : IntKind.i64.wrap (Y + 9) = Y + 9 := IntWalk.i64_in _ (by omega)
            have k0 : ∀ u, Below V2.heap.size V2 u → (u.cell? ⟨w2.heap.size, 0, none⟩ = some (.int .i64 a) ∧ u.cell? ⟨w2.heap.size, 1, none⟩ = some (.int .i64 b) ∧ u.cell? ⟨w2.heap.size, 2, none⟩ = some (.int .i64 c) ∧ u.cell? ⟨w2.heap.size, 3, none⟩ = some (.int .i64 d) ∧ u.cell? ⟨w2.heap.size, 4, none⟩ = some (.int .i64 e) ∧ u.cell? ⟨w2.heap.size, 5, none⟩ = some (.int .i64 f) ∧ u.cell? ⟨w2.heap.size + 1, 0, none⟩ = some (.int .i64 x) ∧ u.cell? ⟨w2.heap.size + 1, 1, none⟩ = some (.int .i64 y) ∧ u.cell? ⟨kq, 0, none⟩ = some (.int .i64 (x + 70)) ∧ u.cell? ⟨kq, 1, none⟩ = some (.int .i64 (y + -30)) ∧ u.cell? ⟨kg, 0, none⟩ = some (.int .i64 a) ∧ u.cell? ⟨kg, 1, none⟩ = some (.int .i64 b) ∧ u.cell? ⟨kg, 2, none⟩ = some (.int .i64 c) ∧ u.cell? ⟨kg, 3, none⟩ = some (.int .i64 d) ∧ u.cell? ⟨kg, 4, none⟩ = some (.int .i64 e) ∧ u.cell? ⟨kg, 5, none⟩ = some (.int .i64 f) ∧ u.cell? ⟨kh, 0, none⟩ = some (.int .i64 a) ∧ u.cell? ⟨kh, 1, none⟩ = some (.int .i64 b) ∧ u.cell? ⟨kh, 2, none⟩ = some (.int .i64 c) ∧ u.cell? ⟨kh, 3, none⟩ = some (.int .i64 d) ∧ u.cell? ⟨kh, 4, none⟩ = some (.int .i64 e) ∧ u.cell? ⟨kh, 5, none⟩ = some (.int .i64 f) ∧ u.cell? ⟨v1.heap.size, 0, none⟩ = some (.int .i64 X) ∧ u.cell? ⟨v1.heap.size, 1, none⟩ = some (.int .i64 Y) ∧ u.cell? ⟨v2.heap.size, 0, none⟩ = some (.int .i64 (X + 5)) ∧ u.cell? ⟨v2.heap.size, 1, none⟩ = some (.int .i64 (Y + 9)) ∧ Below V2.heap.size V2 u) := fun u h => ⟨kc h m0, kc h m1, kc h m2, kc h m3, kc h m4, kc h m5, kc h p0, kc h p1, kc h q0, kc h q1, kc h g0, kc h g1, kc h g2, kc h g3, kc h g4, kc h g5, kc h h0, kc h h1, kc h h2, kc h h3, kc h h4, kc h h5, kc h r0, kc h r1, kc h t0, kc h t1, h⟩
            have kS : ∀ u, (u.cell? ⟨w2.heap.size, 0, none⟩ = some (.int .i64 a) ∧ u.cell? ⟨w2.heap.size, 1, none⟩ = some (.int .i64 b) ∧ u.cell? ⟨w2.heap.size, 2, none⟩ = some (.int .i64 c) ∧ u.cell? ⟨w2.heap.size, 3, none⟩ = some (.int .i64 d) ∧ u.cell? ⟨w2.heap.size, 4, none⟩ = some (.int .i64 e) ∧ u.cell? ⟨w2.heap.size, 5, none⟩ = some (.int .i64 f) ∧ u.cell? ⟨w2.heap.size + 1, 0, none⟩ = some (.int .i64 x) ∧ u.cell? ⟨w2.heap.size + 1, 1, none⟩ = some (.int .i64 y) ∧ u.cell? ⟨kq, 0, none⟩ = some (.int .i64 (x + 70)) ∧ u.cell? ⟨kq, 1, none⟩ = some (.int .i64 (y + -30)) ∧ u.cell? ⟨kg, 0, none⟩ = some (.int .i64 a) ∧ u.cell? ⟨kg, 1, none⟩ = some (.int .i64 b) ∧ u.cell? ⟨kg, 2, none⟩ = some (.int .i64 c) ∧ u.cell? ⟨kg, 3, none⟩ = some (.int .i64 d) ∧ u.cell? ⟨kg, 4, none⟩ = some (.int .i64 e) ∧ u.cell? ⟨kg, 5, none⟩ = some (.int .i64 f) ∧ u.cell? ⟨kh, 0, none⟩ = some (.int .i64 a) ∧ u.cell? ⟨kh, 1, none⟩ = some (.int .i64 b) ∧ u.cell? ⟨kh, 2, none⟩ = some (.int .i64 c) ∧ u.cell? ⟨kh, 3, none⟩ = some (.int .i64 d) ∧ u.cell? ⟨kh, 4, none⟩ = some (.int .i64 e) ∧ u.cell? ⟨kh, 5, none⟩ = some (.int .i64 f) ∧ u.cell? ⟨v1.heap.size, 0, none⟩ = some (.int .i64 X) ∧ u.cell? ⟨v1.heap.size, 1, none⟩ = some (.int .i64 Y) ∧ u.cell? ⟨v2.heap.size, 0, none⟩ = some (.int .i64 (X + 5)) ∧ u.cell? ⟨v2.heap.size, 1, none⟩ = some (.int .i64 (Y + 9)) ∧ Below V2.heap.size V2 u) → Below V2.heap.size V2 u := fun u h => h.2.2.2.2.2.2.2.2.2.2.2.2.2.2.2.2.2.2.2.2.2.2.2.2.2.2
            have hW0 : Below V2.heap.size V2 V2.drew := (Below.refl _ _).drew
            as_aux_lemma =>
              go_region_held3 (fun u => u.cell? ⟨w2.heap.size, 0, none⟩ = some (.int .i64 a) ∧ u.cell? ⟨w2.heap.size, 1, none⟩ = some (.int .i64 b) ∧ u.cell? ⟨w2.heap.size, 2, none⟩ = some (.int .i64 c) ∧ u.cell? ⟨w2.heap.size, 3, none⟩ = some (.int .i64 d) ∧ u.cell? ⟨w2.heap.size, 4, none⟩ = some (.int .i64 e) ∧ u.cell? ⟨w2.heap.size, 5, none⟩ = some (.int .i64 f) ∧ u.cell? ⟨w2.heap.size + 1, 0, none⟩ = some (.int .i64 x) ∧ u.cell? ⟨w2.heap.size + 1, 1, none⟩ = some (.int .i64 y) ∧ u.cell? ⟨kq, 0, none⟩ = some (.int .i64 (x + 70)) ∧ u.cell? ⟨kq, 1, none⟩ = some (.int .i64 (y + -30)) ∧ u.cell? ⟨kg, 0, none⟩ = some (.int .i64 a) ∧ u.cell? ⟨kg, 1, none⟩ = some (.int .i64 b) ∧ u.cell? ⟨kg, 2, none⟩ = some (.int .i64 c) ∧ u.cell? ⟨kg, 3, none⟩ = some (.int .i64 d) ∧ u.cell? ⟨kg, 4, none⟩ = some (.int .i64 e) ∧ u.cell? ⟨kg, 5, none⟩ = some (.int .i64 f) ∧ u.cell? ⟨kh, 0, none⟩ = some (.int .i64 a) ∧ u.cell? ⟨kh, 1, none⟩ = some (.int .i64 b) ∧ u.cell? ⟨kh, 2, none⟩ = some (.int .i64 c) ∧ u.cell? ⟨kh, 3, none⟩ = some (.int .i64 d) ∧ u.cell? ⟨kh, 4, none⟩ = some (.int .i64 e) ∧ u.cell? ⟨kh, 5, none⟩ = some (.int .i64 f) ∧ u.cell? ⟨v1.heap.size, 0, none⟩ = some (.int .i64 X) ∧ u.cell? ⟨v1.heap.size, 1, none⟩ = some (.int .i64 Y) ∧ u.cell? ⟨v2.heap.size, 0, none⟩ = some (.int .i64 (X + 5)) ∧ u.cell? ⟨v2.heap.size, 1, none⟩ = some (.int .i64 (Y + 9)) ∧ Below V2.heap.size V2 u) ((refine k0 _ ?_; with_reducible assumption)) (first | (go_at_call 14; (first | go_fit (unhide HSt _)); rintro r w1 ⟨rfl, hb1⟩; have hW1 := below_after hb1 (kS _ (by with_reducible assumption)) (Nat.le_refl _)) | (go_at_call 11; (first | go_fit (unhide H1 _) | go_fit (unhide H3 _)); rintro r w1 ⟨rfl, hb1⟩; have hW1 := below_after hb1 (kS _ (by with_reducible assumption)) (Nat.le_refl _)) | (go_at_call 12; (first | go_fit (unhide HS2 _)); rintro r w1 ⟨rfl, hb1⟩; have hW1 := below_after hb1 (kS _ (by with_reducible assumption)) (Nat.le_refl _)) | (go_at_call 15; (first | go_fit (unhide H9 _)); rintro r w1 ⟨rfl, hb1⟩; have hW1 := below_after hb1 (kS _ (by with_reducible assumption)) (Nat.le_refl _)) | (go_at_call 16; (first | go_fit (unhide H10 _)); rintro r w1 ⟨rfl, hb1⟩; have hW1 := below_after hb1 (kS _ (by with_reducible assumption)) (Nat.le_refl _)) | (go_at_call 17; (first | go_fit (unhide H11 _)); rintro r w1 ⟨rfl, hb1⟩; have hW1 := below_after hb1 (kS _ (by with_reducible assumption)) (Nat.le_refl _)))
              all_goals
                go_wp2_with fail
                go_ret
                exact ⟨rfl, below_two (unhide HB) (kS _ (by with_reducible assumption))⟩
  · go_enter Try.func3, Try.ntmps3
    go_wp2_with (go_at_call 9; go_must (refine (big_yes a0 len0 cap0 hl _).mono ?_); rintro e w1 ⟨rfl, rfl⟩)
    go_ret
    exact ⟨rfl, Below.refl _ _⟩
end Go.Proofs.Ytaaeegahlpmhpaa
