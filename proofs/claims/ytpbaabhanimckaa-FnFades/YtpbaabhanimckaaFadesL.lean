/-
  FnFades, from what the program's functions answer. (By fadeslaw.py.)
-/
import Derived.Test.YtpbaabhanimckaaDrawCo
import Derived.Test.YtpbaabhanimckaaDrawP
import Derived.Test.YtpbaabhanimckaaQuot
import Derived.Test.YtpbaabhanimckaaQuietIn
import Derived.Test.YtpbaabhanimckaaToAgg
import Derived.Deep.DeepFit
import Derived.Deep.DeepCutAuto
import Derived.Deep.RegionHeld3
namespace Go.Proofs.Ytpbaabhanimckaa
open Go.RowKit
set_option linter.unusedVariables false

set_option maxHeartbeats 16000000 in
set_option maxRecDepth 100000 in
theorem fnFades_of (EF : ∀ (r g b a n : Int) (w : World), Calls Try.prog 15 #[.agg #[.int .i64 r, .int .i64 g, .int .i64 b, .int .i64 a], .int .i64 n] w fun e w' => e = .returned (.agg #[.int .i64 ((fadeC ⟨r, g, b, a⟩ n).x0), .int .i64 ((fadeC ⟨r, g, b, a⟩ n).y0), .int .i64 ((fadeC ⟨r, g, b, a⟩ n).x1), .int .i64 ((fadeC ⟨r, g, b, a⟩ n).y1)]) ∧ Below w.heap.size w w')
    (ET : ∀ (r g b a n : Int) (w : World), Calls Try.prog 16 #[.agg #[.int .i64 r, .int .i64 g, .int .i64 b, .int .i64 a], .int .i64 n] w fun e w' => e = .returned (.agg #[.int .i64 ((thinC ⟨r, g, b, a⟩ n).x0), .int .i64 ((thinC ⟨r, g, b, a⟩ n).y0), .int .i64 ((thinC ⟨r, g, b, a⟩ n).x1), .int .i64 ((thinC ⟨r, g, b, a⟩ n).y1)]) ∧ Below w.heap.size w w')
    (EO : ∀ (r g b a : Int) (w : World), Calls Try.prog 12 #[.agg #[.int .i64 r, .int .i64 g, .int .i64 b, .int .i64 a]] w fun e w' => e = .returned (.bool (laidOkB ⟨r, g, b, a⟩)) ∧ Below w.heap.size w w')
    (a0 : Option Addr) (len0 cap0 : Nat) (z0 : List Int) (w : World) (w0 : IsRow .u8 w a0 len0 cap0 z0) :
    Calls Try.prog 4 #[.slice a0 len0 cap0] w fun e w' => e = .returned (.bool true) ∧ Below w.heap.size w w' := by
  by_cases hl : len0 ≤ 1048576
  · have HI := hide (InB.of_row w0)
    clear w0
    go_enter Try.func4, Try.ntmps4
    dsimp only [List.append]
    go_wp2_with fail
    refine (big_no a0 len0 cap0 hl _).mono ?_
    rintro e w1 ⟨rfl, rfl⟩
    go_wp2_with fail
    refine (drawColors_any a0 len0 cap0 _ hl (unhide HI)).mono ?_
    rintro e w2 ⟨⟨r, g, b, a, r2, g2, b2, a2, rfl, hS, hD⟩, hb⟩
    clear hD
    go_upto_region 4 with fail
    have R3 := hide (al2_0 w2 (.cells #[.int .i64 r, .int .i64 g, .int .i64 b, .int .i64 a] 25) (.cells #[.int .i64 r2, .int .i64 g2, .int .i64 b2, .int .i64 a2] 25))
    have HB := hide (below_two hb (al2_below w2 (.cells #[.int .i64 r, .int .i64 g, .int .i64 b, .int .i64 a] 25) (.cells #[.int .i64 r2, .int .i64 g2, .int .i64 b2, .int .i64 a2] 25)))
    clear hb
    generalize (w2.alloc (.cells #[.int .i64 r, .int .i64 g, .int .i64 b, .int .i64 a] 25)).alloc (.cells #[.int .i64 r2, .int .i64 g2, .int .i64 b2, .int .i64 a2] 25) = W2 at R3 HB ⊢
    generalize w2.heap.size + 1 = b4 at ⊢
    generalize w2.heap.size = b3 at R3 ⊢
    go_wp2_with fail
    refine (drawPlaces_any a0 len0 cap0 _ hl ((unhide HI).next (unhide HB))).mono ?_
    rintro e w3 ⟨vp, p, hp12, hpb, rfl, hop, hb3⟩
    replace R3 := hide (row_next hb3 (unhide R3))
    replace HB := hide (below_two (unhide HB) hb3)
    obtain ⟨pp, pc, rfl, _, _, _, hpp⟩ := row_form hop
    obtain ⟨gp, rfl, hgp1, hgp2⟩ := hpp (by omega)
    obtain ⟨u0, ⟨u0a, u0b⟩, c0⟩ := place_at hop hpb 0 (by omega)
    obtain ⟨u1, ⟨u1a, u1b⟩, c1⟩ := place_at hop hpb 1 (by omega)
    rw [hp12]
    replace c0 := hide c0
    replace c1 := hide c1
    clear hpb hop hb3 hgp1 hgp2 hpp hp12 HI
    have t0 : u0.tmod 256 = u0 % 256 := Int.tmod_eq_emod_of_nonneg (by omega)
    have t1 : u1.tmod 5 = u1 % 5 := Int.tmod_eq_emod_of_nonneg (by omega)
    have HF := hide (EF r g b a (u0 % 256))
    have HT := hide (ET r g b a (u1 % 5))
    have HP := hide (specThin_any r g b a (u1 % 5))
    have okf := fade_ok hS (u0 % 256)
    have okt := thin_ok hS (u1 % 5)
    generalize fadeC ⟨r, g, b, a⟩ (u0 % 256) = X at HF okf
    generalize thinC ⟨r, g, b, a⟩ (u1 % 5) = Y at HT HP okt
    obtain ⟨X0, X1, X2, X3⟩ := X
    obtain ⟨Y0, Y1, Y2, Y3⟩ := Y
    dsimp only at HF HT HP okf okt
    obtain ⟨okf1, okf2, okf3⟩ := okf
    obtain ⟨okt1, okt2, okt3, okt4⟩ := okt
    have HO1 := hide (EO r g b a)
    rw [hS] at HO1
    have HO2 := hide (EO X0 X1 X2 X3)
    rw [okf1] at HO2
    have HO3 := hide (EO Y0 Y1 Y2 Y3)
    rw [okt1] at HO3
    have HA := hide (EF r g b a 255)
    rw [fade_all hS] at HA
    have HB4 := hide (ET r g b a 4)
    rw [thin_all hS] at HB4
    have HC := hide (EF r g b a 0)
    rw [(fade_no hS).1] at HC
    have HD := hide (ET r g b a 0)
    rw [(fade_no hS).2.1] at HD
    have HE := hide (EF r g b a 256)
    rw [(fade_no hS).2.2.1] at HE
    have HG := hide (ET r g b a 5)
    rw [(fade_no hS).2.2.2] at HG
    dsimp only at HA HB4 HC HD HE HG
    clear EF ET EO okf1 okt1 hS u0a u0b u1a u1b
    go_upto_region 5 with fail
    have k0 : ∀ u, Below w3.heap.size w3 u → (u.cell? ⟨b3, 0, none⟩ = some (.int .i64 r) ∧ u.cell? ⟨b3, 1, none⟩ = some (.int .i64 g) ∧ u.cell? ⟨b3, 2, none⟩ = some (.int .i64 b) ∧ u.cell? ⟨b3, 3, none⟩ = some (.int .i64 a) ∧ u.cell? ⟨gp, 0, none⟩ = some (.int .i64 u0) ∧ Below w3.heap.size w3 u) := fun u h => by
      obtain ⟨y0, y1, y2, y3⟩ := row4 (row_next h (unhide R3))
      exact ⟨y0, y1, y2, y3, kc h (unhide c0), h⟩
    have kS : ∀ u, (u.cell? ⟨b3, 0, none⟩ = some (.int .i64 r) ∧ u.cell? ⟨b3, 1, none⟩ = some (.int .i64 g) ∧ u.cell? ⟨b3, 2, none⟩ = some (.int .i64 b) ∧ u.cell? ⟨b3, 3, none⟩ = some (.int .i64 a) ∧ u.cell? ⟨gp, 0, none⟩ = some (.int .i64 u0) ∧ Below w3.heap.size w3 u) → Below w3.heap.size w3 u := fun u h => h.2.2.2.2.2
    go_cut [6] (fun s u => ∃ q, s = .pointer (some ⟨q, 0, none⟩) ∧ u.cell? ⟨q, 0, none⟩ = some (.int .i64 X0) ∧ u.cell? ⟨q, 1, none⟩ = some (.int .i64 X1) ∧ u.cell? ⟨q, 2, none⟩ = some (.int .i64 X2) ∧ u.cell? ⟨q, 3, none⟩ = some (.int .i64 X3) ∧ Below w3.heap.size w3 u)
    case first =>
      have hW0 : Below w3.heap.size w3 w3.drew := (Below.refl _ _).drew
      have hd : w3.drew.heap.size = w3.heap.size := rfl
      go_region_held3 (fun u => u.cell? ⟨b3, 0, none⟩ = some (.int .i64 r) ∧ u.cell? ⟨b3, 1, none⟩ = some (.int .i64 g) ∧ u.cell? ⟨b3, 2, none⟩ = some (.int .i64 b) ∧ u.cell? ⟨b3, 3, none⟩ = some (.int .i64 a) ∧ u.cell? ⟨gp, 0, none⟩ = some (.int .i64 u0) ∧ Below w3.heap.size w3 u) ((refine k0 _ ?_; first | with_reducible assumption | (with_reducible refine below_new _ ?_ (Nat.le_refl _); with_reducible assumption) | (with_reducible refine Below.drew ?_; with_reducible exact below_new _ (Below.refl _ _) (Nat.le_refl _)) | (with_reducible refine below_put4 ?_ ?_ _ _ _ _ <;> first | with_reducible assumption | omega))) (first | (go_at_call 15; go_fit (unhide HF _); rintro r w1 ⟨rfl, hb1⟩; have hW1 := below_after hb1 (kS _ (by with_reducible assumption)) (Nat.le_refl _); have hsz := hb1.size; (first | (have zz := carry4 (.int .i64 0) (.int .i64 0) (.int .i64 0) (.int .i64 0) 25 hb1 (by with_reducible assumption); obtain ⟨z0, z1, z2, z3, v0, v1, v2, v3, hz, hzl⟩ := zz) | (have zz := carry4 (.int .i64 0) (.int .i64 0) (.int .i64 0) (.int .i64 0) 25 hb1 (al1_0 _ _); obtain ⟨z0, z1, z2, z3, v0, v1, v2, v3, hz, hzl⟩ := zz; try simp only [hd] at z0 z1 z2 z3 v0 v1 v2 v3 hz hzl) | skip)))
      all_goals
        go_wp2_with fail
        go_meet
        exact ⟨_, rfl, (by first | (rw [World.cell?_alloc_mark]; rfl) | exact put4_0 (by with_reducible assumption) _ _ _ _), (by first | (rw [World.cell?_alloc_mark]; rfl) | exact put4_1 (by with_reducible assumption) _ _ _ _), (by first | (rw [World.cell?_alloc_mark]; rfl) | exact put4_2 (by with_reducible assumption) _ _ _ _), (by first | (rw [World.cell?_alloc_mark]; rfl) | exact put4_3 (by with_reducible assumption) _ _ _ _), kS _ (by with_reducible assumption)⟩
    case rest =>
      obtain ⟨q6, rfl, f0, f1, f2, f3, hb⟩ := hcut
      replace R3 := hide (row_next hb (unhide R3))
      replace HB := hide (below_two (unhide HB) hb)
      replace c1 := hide (kc hb (unhide c1))
      replace f0 := hide f0
      replace f1 := hide f1
      replace f2 := hide f2
      replace f3 := hide f3
      clear hb c0 k0 kS HF
      generalize wc = W5 at *
      go_upto_region 6 with fail
      have k0 : ∀ u, Below W5.heap.size W5 u → (u.cell? ⟨b3, 0, none⟩ = some (.int .i64 r) ∧ u.cell? ⟨b3, 1, none⟩ = some (.int .i64 g) ∧ u.cell? ⟨b3, 2, none⟩ = some (.int .i64 b) ∧ u.cell? ⟨b3, 3, none⟩ = some (.int .i64 a) ∧ u.cell? ⟨gp, 1, none⟩ = some (.int .i64 u1) ∧ Below W5.heap.size W5 u) := fun u h => by
        obtain ⟨y0, y1, y2, y3⟩ := row4 (row_next h (unhide R3))
        exact ⟨y0, y1, y2, y3, kc h (unhide c1), h⟩
      have kS : ∀ u, (u.cell? ⟨b3, 0, none⟩ = some (.int .i64 r) ∧ u.cell? ⟨b3, 1, none⟩ = some (.int .i64 g) ∧ u.cell? ⟨b3, 2, none⟩ = some (.int .i64 b) ∧ u.cell? ⟨b3, 3, none⟩ = some (.int .i64 a) ∧ u.cell? ⟨gp, 1, none⟩ = some (.int .i64 u1) ∧ Below W5.heap.size W5 u) → Below W5.heap.size W5 u := fun u h => h.2.2.2.2.2
      go_cut [7] (fun s u => ∃ q, s = .pointer (some ⟨q, 0, none⟩) ∧ u.cell? ⟨q, 0, none⟩ = some (.int .i64 Y0) ∧ u.cell? ⟨q, 1, none⟩ = some (.int .i64 Y1) ∧ u.cell? ⟨q, 2, none⟩ = some (.int .i64 Y2) ∧ u.cell? ⟨q, 3, none⟩ = some (.int .i64 Y3) ∧ Below W5.heap.size W5 u)
      case first =>
        have hW0 : Below W5.heap.size W5 W5.drew := (Below.refl _ _).drew
        have hd : W5.drew.heap.size = W5.heap.size := rfl
        go_region_held3 (fun u => u.cell? ⟨b3, 0, none⟩ = some (.int .i64 r) ∧ u.cell? ⟨b3, 1, none⟩ = some (.int .i64 g) ∧ u.cell? ⟨b3, 2, none⟩ = some (.int .i64 b) ∧ u.cell? ⟨b3, 3, none⟩ = some (.int .i64 a) ∧ u.cell? ⟨gp, 1, none⟩ = some (.int .i64 u1) ∧ Below W5.heap.size W5 u) ((refine k0 _ ?_; first | with_reducible assumption | (with_reducible refine below_new _ ?_ (Nat.le_refl _); with_reducible assumption) | (with_reducible refine Below.drew ?_; with_reducible exact below_new _ (Below.refl _ _) (Nat.le_refl _)) | (with_reducible refine below_put4 ?_ ?_ _ _ _ _ <;> first | with_reducible assumption | omega))) (first | (go_at_call 16; go_fit (unhide HT _); rintro r w1 ⟨rfl, hb1⟩; have hW1 := below_after hb1 (kS _ (by with_reducible assumption)) (Nat.le_refl _); have hsz := hb1.size; (first | (have zz := carry4 (.int .i64 0) (.int .i64 0) (.int .i64 0) (.int .i64 0) 25 hb1 (by with_reducible assumption); obtain ⟨z0, z1, z2, z3, v0, v1, v2, v3, hz, hzl⟩ := zz) | (have zz := carry4 (.int .i64 0) (.int .i64 0) (.int .i64 0) (.int .i64 0) 25 hb1 (al1_0 _ _); obtain ⟨z0, z1, z2, z3, v0, v1, v2, v3, hz, hzl⟩ := zz; try simp only [hd] at z0 z1 z2 z3 v0 v1 v2 v3 hz hzl) | skip)))
        all_goals
          go_wp2_with fail
          go_meet
          exact ⟨_, rfl, (by first | (rw [World.cell?_alloc_mark]; rfl) | exact put4_0 (by with_reducible assumption) _ _ _ _), (by first | (rw [World.cell?_alloc_mark]; rfl) | exact put4_1 (by with_reducible assumption) _ _ _ _), (by first | (rw [World.cell?_alloc_mark]; rfl) | exact put4_2 (by with_reducible assumption) _ _ _ _), (by first | (rw [World.cell?_alloc_mark]; rfl) | exact put4_3 (by with_reducible assumption) _ _ _ _), kS _ (by with_reducible assumption)⟩
      case rest =>
        obtain ⟨q7, rfl, g0, g1, g2, g3, hb⟩ := hcut
        replace R3 := hide (row_next hb (unhide R3))
        replace HB := hide (below_two (unhide HB) hb)
        replace c1 := hide (kc hb (unhide c1))
        replace f0 := hide (kc hb (unhide f0))
        replace f1 := hide (kc hb (unhide f1))
        replace f2 := hide (kc hb (unhide f2))
        replace f3 := hide (kc hb (unhide f3))
        clear hb k0 kS HT
        generalize wc = W6 at *
        go_upto_region 7 with fail
        obtain ⟨I, F, hI, F1, F2⟩ := kept_worlds W6
        have s0 : ∀ i, (F i).cell? ⟨b3, 0, none⟩ = some (.int .i64 r) := fun i => (row4 (row_next (F2 i) (unhide R3))).1
        have s1 : ∀ i, (F i).cell? ⟨b3, 1, none⟩ = some (.int .i64 g) := fun i => (row4 (row_next (F2 i) (unhide R3))).2.1
        have s2 : ∀ i, (F i).cell? ⟨b3, 2, none⟩ = some (.int .i64 b) := fun i => (row4 (row_next (F2 i) (unhide R3))).2.2.1
        have s3 : ∀ i, (F i).cell? ⟨b3, 3, none⟩ = some (.int .i64 a) := fun i => (row4 (row_next (F2 i) (unhide R3))).2.2.2
        have m0 : ∀ i, (F i).cell? ⟨q6, 0, none⟩ = some (.int .i64 X0) := fun i => kc (F2 i) (unhide f0)
        have m1 : ∀ i, (F i).cell? ⟨q6, 1, none⟩ = some (.int .i64 X1) := fun i => kc (F2 i) (unhide f1)
        have m2 : ∀ i, (F i).cell? ⟨q6, 2, none⟩ = some (.int .i64 X2) := fun i => kc (F2 i) (unhide f2)
        have m3 : ∀ i, (F i).cell? ⟨q6, 3, none⟩ = some (.int .i64 X3) := fun i => kc (F2 i) (unhide f3)
        have n0 : ∀ i, (F i).cell? ⟨q7, 0, none⟩ = some (.int .i64 Y0) := fun i => kc (F2 i) g0
        have n1 : ∀ i, (F i).cell? ⟨q7, 1, none⟩ = some (.int .i64 Y1) := fun i => kc (F2 i) g1
        have n2 : ∀ i, (F i).cell? ⟨q7, 2, none⟩ = some (.int .i64 Y2) := fun i => kc (F2 i) g2
        have n3 : ∀ i, (F i).cell? ⟨q7, 3, none⟩ = some (.int .i64 Y3) := fun i => kc (F2 i) g3
        have p1 : ∀ i, (F i).cell? ⟨gp, 1, none⟩ = some (.int .i64 u1) := fun i => kc (F2 i) (unhide c1)
        have qS : ∀ u, (Op.equalIn 10000 25 (.agg #[.int .i64 r, .int .i64 g, .int .i64 b, .int .i64 a]) (.agg #[.int .i64 r, .int .i64 g, .int .i64 b, .int .i64 a])).run Try.prog u = .ok true u := fun u => by rw [eqlColor]; simp
        have qZ : ∀ u, (Op.equalIn 10000 25 (.agg #[.int .i64 0, .int .i64 0, .int .i64 0, .int .i64 0]) (.agg #[.int .i64 0, .int .i64 0, .int .i64 0, .int .i64 0])).run Try.prog u = .ok true u := fun u => by rw [eqlColor]; simp
        have qY : ∀ u, (Op.equalIn 10000 25 (.agg #[.int .i64 Y0, .int .i64 Y1, .int .i64 Y2, .int .i64 Y3]) (.agg #[.int .i64 Y0, .int .i64 Y1, .int .i64 Y2, .int .i64 Y3])).run Try.prog u = .ok true u := fun u => by rw [eqlColor]; simp
        clear g0 g1 g2 g3 f0 f1 f2 f3 c1 R3
        replace F1 := hide F1
        replace F2 := hide F2
        refine wp_region_quiet_in (unhide F1) (by kernel_rfl) (by kernel_rfl) ?_
        repeat (go_big_quiet_step (first | with_reducible exact quiet_in (unhide F1) (unhide F2) (unhide HO1 _) | with_reducible exact quiet_in (unhide F1) (unhide F2) (unhide HO2 _) | with_reducible exact quiet_in (unhide F1) (unhide F2) (unhide HO3 _) | with_reducible exact quiet_in (unhide F1) (unhide F2) (unhide HA _) | with_reducible exact quiet_in (unhide F1) (unhide F2) (unhide HB4 _) | with_reducible exact quiet_in (unhide F1) (unhide F2) (unhide HC _) | with_reducible exact quiet_in (unhide F1) (unhide F2) (unhide HD _) | with_reducible exact quiet_in (unhide F1) (unhide F2) (unhide HE _) | with_reducible exact quiet_in (unhide F1) (unhide F2) (unhide HG _) | with_reducible exact quiet_in (unhide F1) (unhide F2) (unhide HP _)))
        refine wpQuiet_nil ?_
        rintro _ ⟨i, rfl⟩
        have hF := unhide F2 i
        clear F1 s0 s1 s2 s3 m0 m1 m2 m3 n0 n1 n2 n3 p1
        go_wp2_with fail
        go_ret
        exact ⟨rfl, below_two (unhide HB) hF⟩
  · go_enter Try.func4, Try.ntmps4
    go_wp2_with (go_at_call 9; go_must (refine (big_yes a0 len0 cap0 hl _).mono ?_); rintro e w1 ⟨rfl, rfl⟩)
    go_ret
    exact ⟨rfl, Below.refl _ _⟩
end Go.Proofs.Ytpbaabhanimckaa
