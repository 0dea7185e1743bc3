/-
  FnPaints, from what the program's functions answer. (By paintslaw.py.)
-/
import Derived.Test.YtcpbagfmfjjjnaaDrawPn
import Derived.Test.YtcpbagfmfjjjnaaPaintU
import Derived.Test.YtcpbagfmfjjjnaaDrawP
import Derived.Test.YtcpbagfmfjjjnaaQuot
import Derived.Test.YtcpbagfmfjjjnaaQuietIn
import Derived.Deep.DeepFit
import Derived.Deep.DeepCutAuto
namespace Go.Proofs.Ytcpbagfmfjjjnaa
open Go.RowKit
set_option linter.unusedVariables false

theorem colorAt_ok (p : P13) (x y : Int) : colorOkB (colorAtC p x y) = true ∧ (colorAtC p x y).x0 ≤ (colorAtC p x y).y1 ∧ (colorAtC p x y).y0 ≤ (colorAtC p x y).y1 ∧ (colorAtC p x y).x1 ≤ (colorAtC p x y).y1 := by
  unfold colorAtC
  split
  · split
    · exact laid_ok _
    · exact laid_ok _
  · exact ⟨by decide, by decide, by decide, by decide⟩
/-- The slope along one row: 25.6 parts a square. -/
def rowP (f l : B4) : P13 := ⟨2, f, l, 128, 0, 2688, 0⟩
theorem rowP_ok {f l : B4} (hf : colorOkB f = true) (hl : colorOkB l = true) : paintOkB (rowP f l) = true := by
  obtain ⟨f0, f1, f2, f3⟩ := f
  obtain ⟨l0, l1, l2, l3⟩ := l
  exact slope_is hf hl (by decide) (by decide) (by decide)
theorem rowP_part {f l : B4} (hf : colorOkB f = true) (hl : colorOkB l = true) (i y : Int) (hi : -2000 ≤ i ∧ i ≤ 2000) : partI (rowP f l) i y = clampI ((167772160 * i) / 6553600) 0 256 := by
  have hc : clampI i (-2000) 2000 = i := by unfold clampI; rw [if_neg (by omega), if_neg (by omega)]
  unfold partI
  rw [if_pos ⟨rfl, rowP_ok hf hl⟩]
  unfold alongI spanI rowP
  dsimp only
  rw [hc, show (256 * i + 128 - 128) * (2688 - 128) + (256 * clampI y (-2000) 2000 + 128 - 0) * (0 - 0) = 655360 * i by omega, show ((2688 : Int) - 128) * (2688 - 128) + (0 - 0) * (0 - 0) = 6553600 by decide]
  unfold fdivI
  rw [if_neg (by decide), show 256 * (655360 * i) = 167772160 * i by omega]
theorem rowP_up {f l : B4} (hf : colorOkB f = true) (hl : colorOkB l = true) (i y : Int) (hi : 0 ≤ i ∧ i ≤ 9) : partI (rowP f l) i y ≤ partI (rowP f l) (i + 1) y := by
  rw [rowP_part hf hl i y (by omega), rowP_part hf hl (i + 1) y (by omega)]
  unfold clampI
  split <;> (try split) <;> (try split) <;> (try split) <;> omega
theorem mixC_none (f l : B4) : mixC f l 0 = f := by unfold mixC; rw [mix_none, mix_none, mix_none, mix_none]
theorem mixC_all (f l : B4) : mixC f l 256 = l := by unfold mixC; rw [mix_all, mix_all, mix_all, mix_all]
theorem rowP_color {f l : B4} (hf : colorOkB f = true) (hl : colorOkB l = true) (i y : Int) (hi : -2000 ≤ i ∧ i ≤ 2000) : colorAtC (rowP f l) i y = laidC (mixC f l (clampI ((167772160 * i) / 6553600) 0 256)) := by
  unfold colorAtC
  rw [if_pos (rowP_ok hf hl), rowP_part hf hl i y hi]
  exact if_neg (show ¬ ((2 : Int) = 1) by decide)
theorem rowP_begin {f l : B4} (hf : colorOkB f = true) (hl : colorOkB l = true) (y : Int) : colorAtC (rowP f l) 0 y = laidC f := by
  rw [rowP_color hf hl 0 y (by omega), show clampI ((167772160 * 0) / 6553600) 0 256 = 0 by decide, mixC_none]
theorem rowP_end {f l : B4} (hf : colorOkB f = true) (hl : colorOkB l = true) (y : Int) : colorAtC (rowP f l) 10 y = laidC l := by
  rw [rowP_color hf hl 10 y (by omega), show clampI ((167772160 * 10) / 6553600) 0 256 = 256 by decide, mixC_all]
theorem rowP_ahead {f l : B4} (hf : colorOkB f = true) (hl : colorOkB l = true) (y : Int) : colorAtC (rowP f l) (-9) y = laidC f := by
  rw [rowP_color hf hl (-9) y (by omega), show clampI ((167772160 * -9) / 6553600) 0 256 = 0 by decide, mixC_none]
theorem plain_color {p : P13} (h : paintOkB p = true) (hk : p.k = 1) (x y : Int) : colorAtC p x y = laidC p.f ∧ partI p x y = 0 := by
  unfold colorAtC partI
  rw [if_pos h, if_pos hk, if_neg (fun e => by rw [hk] at e; exact absurd e.1 (by decide))]
  exact ⟨rfl, rfl⟩

set_option maxHeartbeats 16000000 in
set_option maxRecDepth 100000 in
theorem fnPaints_of (EC : ∀ (k r g b a r2 g2 b2 a2 fx fy tx ty : Int) (x y : Int) (w : World), Calls Try.prog 12 #[.agg #[.int .i64 k, .int .i64 r, .int .i64 g, .int .i64 b, .int .i64 a, .int .i64 r2, .int .i64 g2, .int .i64 b2, .int .i64 a2, .int .i64 fx, .int .i64 fy, .int .i64 tx, .int .i64 ty], .int .i64 x, .int .i64 y] w fun e w' => e = .returned (.agg #[.int .i64 ((colorAtC ⟨k, ⟨r, g, b, a⟩, ⟨r2, g2, b2, a2⟩, fx, fy, tx, ty⟩ x y).x0), .int .i64 ((colorAtC ⟨k, ⟨r, g, b, a⟩, ⟨r2, g2, b2, a2⟩, fx, fy, tx, ty⟩ x y).y0), .int .i64 ((colorAtC ⟨k, ⟨r, g, b, a⟩, ⟨r2, g2, b2, a2⟩, fx, fy, tx, ty⟩ x y).x1), .int .i64 ((colorAtC ⟨k, ⟨r, g, b, a⟩, ⟨r2, g2, b2, a2⟩, fx, fy, tx, ty⟩ x y).y1)]) ∧ Below w.heap.size w w')
    (EK : ∀ (k r g b a r2 g2 b2 a2 fx fy tx ty : Int) (w : World), Calls Try.prog 13 #[.agg #[.int .i64 k, .int .i64 r, .int .i64 g, .int .i64 b, .int .i64 a, .int .i64 r2, .int .i64 g2, .int .i64 b2, .int .i64 a2, .int .i64 fx, .int .i64 fy, .int .i64 tx, .int .i64 ty]] w fun e w' => e = .returned (.bool (paintOkB ⟨k, ⟨r, g, b, a⟩, ⟨r2, g2, b2, a2⟩, fx, fy, tx, ty⟩)) ∧ Below w.heap.size w w')
    (EO : ∀ (r g b a : Int) (w : World), Calls Try.prog 14 #[.agg #[.int .i64 r, .int .i64 g, .int .i64 b, .int .i64 a]] w fun e w' => e = .returned (.bool (colorOkB ⟨r, g, b, a⟩)) ∧ Below w.heap.size w w')
    (ER : ∀ (k r g b a r2 g2 b2 a2 fx fy tx ty : Int) (x y : Int) (w : World), Calls Try.prog 16 #[.agg #[.int .i64 k, .int .i64 r, .int .i64 g, .int .i64 b, .int .i64 a, .int .i64 r2, .int .i64 g2, .int .i64 b2, .int .i64 a2, .int .i64 fx, .int .i64 fy, .int .i64 tx, .int .i64 ty], .int .i64 x, .int .i64 y] w fun e w' => e = .returned (.int .i64 (partI ⟨k, ⟨r, g, b, a⟩, ⟨r2, g2, b2, a2⟩, fx, fy, tx, ty⟩ x y)) ∧ Below w.heap.size w w')
    (EL : ∀ (r g b a : Int) (w : World), Calls Try.prog 17 #[.agg #[.int .i64 r, .int .i64 g, .int .i64 b, .int .i64 a]] w fun e w' => e = .returned (.agg #[.int .i64 ((laidC ⟨r, g, b, a⟩).x0), .int .i64 ((laidC ⟨r, g, b, a⟩).y0), .int .i64 ((laidC ⟨r, g, b, a⟩).x1), .int .i64 ((laidC ⟨r, g, b, a⟩).y1)]) ∧ Below w.heap.size w w')
    (a0 : Option Addr) (len0 cap0 : Nat) (z0 : List Int) (w : World) (w0 : IsRow .u8 w a0 len0 cap0 z0) :
    Calls Try.prog 3 #[.slice a0 len0 cap0] w fun e w' => e = .returned (.bool true) ∧ Below w.heap.size w w' := by
  by_cases hl : len0 ≤ 1048576
  · have HI := hide (InB.of_row w0)
    clear w0
    go_enter Try.func3, Try.ntmps3
    go_wp2_with fail
    refine (big_no a0 len0 cap0 hl _).mono ?_
    rintro e w1 ⟨rfl, rfl⟩
    go_wp2_with fail
    refine (drawSlope_any a0 len0 cap0 _ hl (unhide HI)).mono ?_
    rintro e w2 ⟨⟨k, r, g, b, a, r2, g2, b2, a2, fx, fy, tx, ty, rfl, hok, hk⟩, hb⟩
    go_upto_region 4 with fail
    have R3 := hide (new_row w2 (.cells #[.int .i64 k, .int .i64 r, .int .i64 g, .int .i64 b, .int .i64 a, .int .i64 r2, .int .i64 g2, .int .i64 b2, .int .i64 a2, .int .i64 fx, .int .i64 fy, .int .i64 tx, .int .i64 ty] 29))
    have HB := hide (below_two hb (al1_below w2 (.cells #[.int .i64 k, .int .i64 r, .int .i64 g, .int .i64 b, .int .i64 a, .int .i64 r2, .int .i64 g2, .int .i64 b2, .int .i64 a2, .int .i64 fx, .int .i64 fy, .int .i64 tx, .int .i64 ty] 29)))
    clear hb
    generalize w2.alloc (.cells #[.int .i64 k, .int .i64 r, .int .i64 g, .int .i64 b, .int .i64 a, .int .i64 r2, .int .i64 g2, .int .i64 b2, .int .i64 a2, .int .i64 fx, .int .i64 fy, .int .i64 tx, .int .i64 ty] 29) = W2 at R3 HB ⊢
    generalize w2.heap.size = b3 at R3 ⊢
    go_wp2_with fail
    refine (drawPlaces_any a0 len0 cap0 _ hl ((unhide HI).next (unhide HB))).mono ?_
    rintro e w3 ⟨vp, p, hp12, hpb, rfl, hop, hb3⟩
    replace R3 := hide (row_next hb3 (unhide R3))
    replace HB := hide (below_two (unhide HB) hb3)
    obtain ⟨pp, pc, rfl, _, _, _, hpp⟩ := row_form hop
    obtain ⟨gp, rfl, hgp1, hgp2⟩ := hpp (by omega)
    obtain ⟨u0, ⟨_, _⟩, c0⟩ := place_at hop hpb 0 (by omega)
    obtain ⟨u1, ⟨_, _⟩, c1⟩ := place_at hop hpb 1 (by omega)
    rw [hp12]
    clear hpb hop hb3 hgp1 hgp2 hpp hp12 HI
    have t0 : u0.tmod 14 = u0 % 14 := Int.tmod_eq_emod_of_nonneg (by omega)
    have t1 : u1.tmod 14 = u1 % 14 := Int.tmod_eq_emod_of_nonneg (by omega)
    go_upto_region 7 with fail
    clear c0 c1
    obtain ⟨x, hx⟩ : ∃ x : Int, u0 % 14 - 1 = x := ⟨_, rfl⟩
    obtain ⟨y, hy⟩ : ∃ y : Int, u1 % 14 - 1 = y := ⟨_, rfl⟩
    rw [hx, hy]
    clear hx hy t0 t1
    have hCk := hide (colorAt_ok ⟨k, ⟨r, g, b, a⟩, ⟨r2, g2, b2, a2⟩, fx, fy, tx, ty⟩ x y)
    have hCp := hide (fun (h : k = 1) => plain_color (p := ⟨k, ⟨r, g, b, a⟩, ⟨r2, g2, b2, a2⟩, fx, fy, tx, ty⟩) hok h x y)
    have hSl := hide (fun (h : k = 2) => slope_bd (p := ⟨k, ⟨r, g, b, a⟩, ⟨r2, g2, b2, a2⟩, fx, fy, tx, ty⟩) h hok)
    have HC := hide (EC k r g b a r2 g2 b2 a2 fx fy tx ty x y)
    have HS := hide (specColorAt_any k r g b a r2 g2 b2 a2 fx fy tx ty x y)
    have HK := hide (EK k r g b a r2 g2 b2 a2 fx fy tx ty)
    rw [hok] at HK
    have HR := hide (ER k r g b a r2 g2 b2 a2 fx fy tx ty x y)
    have bR := part_bd ⟨k, ⟨r, g, b, a⟩, ⟨r2, g2, b2, a2⟩, fx, fy, tx, ty⟩ x y
    have HLf := hide (EL r g b a)
    generalize colorAtC ⟨k, ⟨r, g, b, a⟩, ⟨r2, g2, b2, a2⟩, fx, fy, tx, ty⟩ x y = C at hCk hCp HC HS
    generalize partI ⟨k, ⟨r, g, b, a⟩, ⟨r2, g2, b2, a2⟩, fx, fy, tx, ty⟩ x y = t at hCp HR bR
    obtain ⟨C0, C1, C2, C3⟩ := C
    dsimp only at HC HS
    have HO := hide (EO C0 C1 C2 C3)
    obtain ⟨k1, k2, k3, k4⟩ := unhide hCk
    rw [k1] at HO
    dsimp only at k2 k3 k4
    have n2 : decide (C3 < C0) = false := decide_eq_false (by omega)
    have n3 : decide (C3 < C1) = false := decide_eq_false (by omega)
    have n4 : decide (C3 < C2) = false := decide_eq_false (by omega)
    have qC : ∀ u, (Op.equalIn 10000 25 (.agg #[.int .i64 C0, .int .i64 C1, .int .i64 C2, .int .i64 C3]) (.agg #[.int .i64 C0, .int .i64 C1, .int .i64 C2, .int .i64 C3])).run Try.prog u = .ok true u := fun u => by rw [eqlColor]; simp
    clear k1 k2 k3 k4 hCk
    replace hok := hide hok
    obtain ⟨c0, c1, c2, c3, c4, c5, c6, c7, c8, c9, c10, c11, c12⟩ := row13 (unhide R3)
    go_wp2_with fail
    go_fit (unhide HC _)
    rintro e w4 ⟨rfl, hb⟩
    replace R3 := hide (row_next hb (unhide R3))
    replace HB := hide (below_two (unhide HB) hb)
    clear hb c0 c1 c2 c3 c4 c5 c6 c7 c8 c9 c10 c11 c12
    go_upto_region 8 with fail
    have R7 := hide (new_row w4 (.cells #[.int .i64 C0, .int .i64 C1, .int .i64 C2, .int .i64 C3] 25))
    replace R3 := hide (row_next (al1_below w4 (.cells #[.int .i64 C0, .int .i64 C1, .int .i64 C2, .int .i64 C3] 25)) (unhide R3))
    replace HB := hide (below_two (unhide HB) (al1_below w4 (.cells #[.int .i64 C0, .int .i64 C1, .int .i64 C2, .int .i64 C3] 25)))
    generalize w4.alloc (.cells #[.int .i64 C0, .int .i64 C1, .int .i64 C2, .int .i64 C3] 25) = W4 at R3 R7 HB ⊢
    generalize w4.heap.size = b7 at R7 ⊢
    go_cut [67] (fun s u => s = .bool false ∧ Below W4.heap.size W4 u)
    case first =>
      obtain ⟨I, F, hI, F1, F2⟩ := kept_worlds W4
      have R3c0 : ∀ i, (F i).cell? ⟨b3, 0, none⟩ = some (.int .i64 k) := fun i => (row13 (row_next (F2 i) (unhide R3))).1
      have R3c1 : ∀ i, (F i).cell? ⟨b3, 1, none⟩ = some (.int .i64 r) := fun i => (row13 (row_next (F2 i) (unhide R3))).2.1
      have R3c2 : ∀ i, (F i).cell? ⟨b3, 2, none⟩ = some (.int .i64 g) := fun i => (row13 (row_next (F2 i) (unhide R3))).2.2.1
      have R3c3 : ∀ i, (F i).cell? ⟨b3, 3, none⟩ = some (.int .i64 b) := fun i => (row13 (row_next (F2 i) (unhide R3))).2.2.2.1
      have R3c4 : ∀ i, (F i).cell? ⟨b3, 4, none⟩ = some (.int .i64 a) := fun i => (row13 (row_next (F2 i) (unhide R3))).2.2.2.2.1
      have R3c5 : ∀ i, (F i).cell? ⟨b3, 5, none⟩ = some (.int .i64 r2) := fun i => (row13 (row_next (F2 i) (unhide R3))).2.2.2.2.2.1
      have R3c6 : ∀ i, (F i).cell? ⟨b3, 6, none⟩ = some (.int .i64 g2) := fun i => (row13 (row_next (F2 i) (unhide R3))).2.2.2.2.2.2.1
      have R3c7 : ∀ i, (F i).cell? ⟨b3, 7, none⟩ = some (.int .i64 b2) := fun i => (row13 (row_next (F2 i) (unhide R3))).2.2.2.2.2.2.2.1
      have R3c8 : ∀ i, (F i).cell? ⟨b3, 8, none⟩ = some (.int .i64 a2) := fun i => (row13 (row_next (F2 i) (unhide R3))).2.2.2.2.2.2.2.2.1
      have R3c9 : ∀ i, (F i).cell? ⟨b3, 9, none⟩ = some (.int .i64 fx) := fun i => (row13 (row_next (F2 i) (unhide R3))).2.2.2.2.2.2.2.2.2.1
      have R3c10 : ∀ i, (F i).cell? ⟨b3, 10, none⟩ = some (.int .i64 fy) := fun i => (row13 (row_next (F2 i) (unhide R3))).2.2.2.2.2.2.2.2.2.2.1
      have R3c11 : ∀ i, (F i).cell? ⟨b3, 11, none⟩ = some (.int .i64 tx) := fun i => (row13 (row_next (F2 i) (unhide R3))).2.2.2.2.2.2.2.2.2.2.2.1
      have R3c12 : ∀ i, (F i).cell? ⟨b3, 12, none⟩ = some (.int .i64 ty) := fun i => (row13 (row_next (F2 i) (unhide R3))).2.2.2.2.2.2.2.2.2.2.2.2
      have R7c0 : ∀ i, (F i).cell? ⟨b7, 0, none⟩ = some (.int .i64 C0) := fun i => (row4 (row_next (F2 i) (unhide R7))).1
      have R7c1 : ∀ i, (F i).cell? ⟨b7, 1, none⟩ = some (.int .i64 C1) := fun i => (row4 (row_next (F2 i) (unhide R7))).2.1
      have R7c2 : ∀ i, (F i).cell? ⟨b7, 2, none⟩ = some (.int .i64 C2) := fun i => (row4 (row_next (F2 i) (unhide R7))).2.2.1
      have R7c3 : ∀ i, (F i).cell? ⟨b7, 3, none⟩ = some (.int .i64 C3) := fun i => (row4 (row_next (F2 i) (unhide R7))).2.2.2
      replace F1 := hide F1
      replace F2 := hide F2
      refine wp_region_quiet_in (unhide F1) (by kernel_rfl) (by kernel_rfl) ?_
      repeat (go_big_quiet_step (first | with_reducible exact quiet_in (unhide F1) (unhide F2) (unhide HK _) | with_reducible exact quiet_in (unhide F1) (unhide F2) (unhide HO _) | with_reducible exact quiet_in (unhide F1) (unhide F2) (unhide HS _)))
      refine wpQuiet_nil ?_
      rintro _ ⟨i, rfl⟩
      have hF := unhide F2 i
      clear F1 R3c0 R3c1 R3c2 R3c3 R3c4 R3c5 R3c6 R3c7 R3c8 R3c9 R3c10 R3c11 R3c12 R7c0 R7c1 R7c2 R7c3
      go_wp2_with fail
      go_meet
      exact ⟨rfl, hF⟩
    case rest =>
    obtain ⟨rfl, hb⟩ := hcut
    replace R3 := hide (row_next hb (unhide R3))
    replace R7 := hide (row_next hb (unhide R7))
    replace HB := hide (below_two (unhide HB) hb)
    clear hb HS HK HO HC n2 n3 n4
    obtain ⟨c0, c1, c2, c3, c4, c5, c6, c7, c8, c9, c10, c11, c12⟩ := row13 (unhide R3)
    go_wp2_with fail
    go_fit (unhide HR _)
    rintro e w6 ⟨rfl, hb⟩
    replace R3 := hide (row_next hb (unhide R3))
    replace R7 := hide (row_next hb (unhide R7))
    replace HB := hide (below_two (unhide HB) hb)
    clear hb c0 c1 c2 c3 c4 c5 c6 c7 c8 c9 c10 c11 c12 HR
    rcases hk with rfl | rfl
    · obtain ⟨hC, ht⟩ := unhide hCp rfl
      try dsimp only at hC
      rw [← hC] at HLf
      dsimp only at HLf
      subst ht
      clear hCp hSl hC EC EK EO ER EL
      obtain ⟨c0, c1, c2, c3, c4, c5, c6, c7, c8, c9, c10, c11, c12⟩ := row13 (unhide R3)
      go_upto_region 12 with fail
      clear c0 c1 c2 c3 c4 c5 c6 c7 c8 c9 c10 c11 c12
      obtain ⟨I, F, hI, F1, F2⟩ := kept_worlds w6
      have R3c0 : ∀ i, (F i).cell? ⟨b3, 0, none⟩ = some (.int .i64 1) := fun i => (row13 (row_next (F2 i) (unhide R3))).1
      have R3c1 : ∀ i, (F i).cell? ⟨b3, 1, none⟩ = some (.int .i64 r) := fun i => (row13 (row_next (F2 i) (unhide R3))).2.1
      have R3c2 : ∀ i, (F i).cell? ⟨b3, 2, none⟩ = some (.int .i64 g) := fun i => (row13 (row_next (F2 i) (unhide R3))).2.2.1
      have R3c3 : ∀ i, (F i).cell? ⟨b3, 3, none⟩ = some (.int .i64 b) := fun i => (row13 (row_next (F2 i) (unhide R3))).2.2.2.1
      have R3c4 : ∀ i, (F i).cell? ⟨b3, 4, none⟩ = some (.int .i64 a) := fun i => (row13 (row_next (F2 i) (unhide R3))).2.2.2.2.1
      have R3c5 : ∀ i, (F i).cell? ⟨b3, 5, none⟩ = some (.int .i64 r2) := fun i => (row13 (row_next (F2 i) (unhide R3))).2.2.2.2.2.1
      have R3c6 : ∀ i, (F i).cell? ⟨b3, 6, none⟩ = some (.int .i64 g2) := fun i => (row13 (row_next (F2 i) (unhide R3))).2.2.2.2.2.2.1
      have R3c7 : ∀ i, (F i).cell? ⟨b3, 7, none⟩ = some (.int .i64 b2) := fun i => (row13 (row_next (F2 i) (unhide R3))).2.2.2.2.2.2.2.1
      have R3c8 : ∀ i, (F i).cell? ⟨b3, 8, none⟩ = some (.int .i64 a2) := fun i => (row13 (row_next (F2 i) (unhide R3))).2.2.2.2.2.2.2.2.1
      have R3c9 : ∀ i, (F i).cell? ⟨b3, 9, none⟩ = some (.int .i64 fx) := fun i => (row13 (row_next (F2 i) (unhide R3))).2.2.2.2.2.2.2.2.2.1
      have R3c10 : ∀ i, (F i).cell? ⟨b3, 10, none⟩ = some (.int .i64 fy) := fun i => (row13 (row_next (F2 i) (unhide R3))).2.2.2.2.2.2.2.2.2.2.1
      have R3c11 : ∀ i, (F i).cell? ⟨b3, 11, none⟩ = some (.int .i64 tx) := fun i => (row13 (row_next (F2 i) (unhide R3))).2.2.2.2.2.2.2.2.2.2.2.1
      have R3c12 : ∀ i, (F i).cell? ⟨b3, 12, none⟩ = some (.int .i64 ty) := fun i => (row13 (row_next (F2 i) (unhide R3))).2.2.2.2.2.2.2.2.2.2.2.2
      have R7c0 : ∀ i, (F i).cell? ⟨b7, 0, none⟩ = some (.int .i64 C0) := fun i => (row4 (row_next (F2 i) (unhide R7))).1
      have R7c1 : ∀ i, (F i).cell? ⟨b7, 1, none⟩ = some (.int .i64 C1) := fun i => (row4 (row_next (F2 i) (unhide R7))).2.1
      have R7c2 : ∀ i, (F i).cell? ⟨b7, 2, none⟩ = some (.int .i64 C2) := fun i => (row4 (row_next (F2 i) (unhide R7))).2.2.1
      have R7c3 : ∀ i, (F i).cell? ⟨b7, 3, none⟩ = some (.int .i64 C3) := fun i => (row4 (row_next (F2 i) (unhide R7))).2.2.2
      replace F1 := hide F1
      replace F2 := hide F2
      refine wp_region_quiet_in (unhide F1) (by kernel_rfl) (by kernel_rfl) ?_
      repeat (go_big_quiet_step (first | with_reducible exact quiet_in (unhide F1) (unhide F2) (unhide HLf _)))
      refine wpQuiet_nil ?_
      rintro _ ⟨i, rfl⟩
      have hF := unhide F2 i
      clear F1 R3c0 R3c1 R3c2 R3c3 R3c4 R3c5 R3c6 R3c7 R3c8 R3c9 R3c10 R3c11 R3c12 R7c0 R7c1 R7c2 R7c3
      go_wp2_with fail
      go_ret
      exact ⟨rfl, below_two (unhide HB) hF⟩
    · obtain ⟨_, _, _, _, _, hf, hl2⟩ := unhide hSl rfl
      try dsimp only at hf hl2
      clear hCp hSl qC HLf
      have HP := hide (fun (i : Int) => ER 2 r g b a r2 g2 b2 a2 128 0 2688 0 i 3)
      have HUP := hide (fun (i : Int) (hi : 0 ≤ i ∧ i ≤ 9) => rowP_up hf hl2 i 3 hi)
      have HA := hide (EC 2 r g b a r2 g2 b2 a2 128 0 2688 0 0 5)
      have HE := hide (EC 2 r g b a r2 g2 b2 a2 128 0 2688 0 10 5)
      have HN := hide (EC 2 r g b a r2 g2 b2 a2 128 0 2688 0 (-9) 0)
      have HLf := hide (EL r g b a)
      have HLl := hide (EL r2 g2 b2 a2)
      have e1 : colorAtC ⟨2, ⟨r, g, b, a⟩, ⟨r2, g2, b2, a2⟩, 128, 0, 2688, 0⟩ 0 5 = laidC ⟨r, g, b, a⟩ := rowP_begin hf hl2 5
      have e2 : colorAtC ⟨2, ⟨r, g, b, a⟩, ⟨r2, g2, b2, a2⟩, 128, 0, 2688, 0⟩ 10 5 = laidC ⟨r2, g2, b2, a2⟩ := rowP_end hf hl2 5
      have e3 : colorAtC ⟨2, ⟨r, g, b, a⟩, ⟨r2, g2, b2, a2⟩, 128, 0, 2688, 0⟩ (-9) 0 = laidC ⟨r, g, b, a⟩ := rowP_ahead hf hl2 0
      rw [e1] at HA
      rw [e2] at HE
      rw [e3] at HN
      clear e1 e2 e3 hf hl2 EC EK EO ER EL
      generalize laidC ⟨r, g, b, a⟩ = LF at HA HN HLf
      generalize laidC ⟨r2, g2, b2, a2⟩ = LL at HE HLl
      obtain ⟨p0, p1, p2, p3⟩ := LF
      obtain ⟨s0, s1, s2, s3⟩ := LL
      dsimp only at HA HE HN HLf HLl
      have q1 : ∀ u, (Op.equalIn 10000 25 (.agg #[.int .i64 p0, .int .i64 p1, .int .i64 p2, .int .i64 p3]) (.agg #[.int .i64 p0, .int .i64 p1, .int .i64 p2, .int .i64 p3])).run Try.prog u = .ok true u := fun u => by rw [eqlColor]; simp
      have q2 : ∀ u, (Op.equalIn 10000 25 (.agg #[.int .i64 s0, .int .i64 s1, .int .i64 s2, .int .i64 s3]) (.agg #[.int .i64 s0, .int .i64 s1, .int .i64 s2, .int .i64 s3])).run Try.prog u = .ok true u := fun u => by rw [eqlColor]; simp
      obtain ⟨c0, c1, c2, c3, c4, c5, c6, c7, c8, c9, c10, c11, c12⟩ := row13 (unhide R3)
      go_upto_region 14 with fail
      clear c0 c1 c2 c3 c4 c5 c6 c7 c8 c9 c10 c11 c12
      have R9 := hide (new_row w6 (.cells #[.int .i64 2, .int .i64 r, .int .i64 g, .int .i64 b, .int .i64 a, .int .i64 r2, .int .i64 g2, .int .i64 b2, .int .i64 a2, .int .i64 128, .int .i64 0, .int .i64 2688, .int .i64 0] 29))
      replace R3 := hide (row_next (al1_below w6 (.cells #[.int .i64 2, .int .i64 r, .int .i64 g, .int .i64 b, .int .i64 a, .int .i64 r2, .int .i64 g2, .int .i64 b2, .int .i64 a2, .int .i64 128, .int .i64 0, .int .i64 2688, .int .i64 0] 29)) (unhide R3))
      replace HB := hide (below_two (unhide HB) (al1_below w6 (.cells #[.int .i64 2, .int .i64 r, .int .i64 g, .int .i64 b, .int .i64 a, .int .i64 r2, .int .i64 g2, .int .i64 b2, .int .i64 a2, .int .i64 128, .int .i64 0, .int .i64 2688, .int .i64 0] 29)))
      clear R7
      generalize w6.alloc (.cells #[.int .i64 2, .int .i64 r, .int .i64 g, .int .i64 b, .int .i64 a, .int .i64 r2, .int .i64 g2, .int .i64 b2, .int .i64 a2, .int .i64 128, .int .i64 0, .int .i64 2688, .int .i64 0] 29) = W6 at R3 R9 HB ⊢
      generalize w6.heap.size = b9 at R9 ⊢
      go_upto_region 15 with fail
      go_loopw [10] (fun i u => ∃ n : Nat, n ≤ 10 ∧ i = .int .i64 (n : Int) ∧ Hid (u.heap[b3]? = some (.cells #[.int .i64 2, .int .i64 r, .int .i64 g, .int .i64 b, .int .i64 a, .int .i64 r2, .int .i64 g2, .int .i64 b2, .int .i64 a2, .int .i64 fx, .int .i64 fy, .int .i64 tx, .int .i64 ty] 29 (0, 0))) ∧ Hid (u.heap[b9]? = some (.cells #[.int .i64 2, .int .i64 r, .int .i64 g, .int .i64 b, .int .i64 a, .int .i64 r2, .int .i64 g2, .int .i64 b2, .int .i64 a2, .int .i64 128, .int .i64 0, .int .i64 2688, .int .i64 0] 29 (0, 0))) ∧ Hid (Below w1.heap.size w1 u)) (fun i _ => 10 - (intOf i).toNat)
      case atStart => exact ⟨0, by omega, rfl, R3, R9, HB⟩
      case round =>
        clear R3 R9 HB
        obtain ⟨n, hn, rfl, R3, R9, HB⟩ := hrel
        by_cases hn10 : n < 10
        · have hni : (n : Int) < 10 := by omega
          have H1 := hide (unhide HP (n : Int))
          have H2 := hide (unhide HP ((n : Int) + 1))
          have hup : partI ⟨2, ⟨r, g, b, a⟩, ⟨r2, g2, b2, a2⟩, 128, 0, 2688, 0⟩ (n : Int) 3 ≤ partI ⟨2, ⟨r, g, b, a⟩, ⟨r2, g2, b2, a2⟩, 128, 0, 2688, 0⟩ ((n : Int) + 1) 3 := unhide HUP (n : Int) (by omega)
          generalize partI ⟨2, ⟨r, g, b, a⟩, ⟨r2, g2, b2, a2⟩, 128, 0, 2688, 0⟩ (n : Int) 3 = v1 at H1 hup
          generalize partI ⟨2, ⟨r, g, b, a⟩, ⟨r2, g2, b2, a2⟩, 128, 0, 2688, 0⟩ ((n : Int) + 1) 3 = v2 at H2 hup
          have hgt : decide (v2 < v1) = false := decide_eq_false (by omega)
          have vn : IntKind.i64.wrap ((n : Int) + 1) = (n : Int) + 1 := IntWalk.i64_in _ (by omega)
          clear hup
          go_upto_region 17 with fail
          obtain ⟨I, F, hI, F1, F2⟩ := kept_worlds wr
          have R9c0 : ∀ i, (F i).cell? ⟨b9, 0, none⟩ = some (.int .i64 2) := fun i => (row13 (row_next (F2 i) (unhide R9))).1
          have R9c1 : ∀ i, (F i).cell? ⟨b9, 1, none⟩ = some (.int .i64 r) := fun i => (row13 (row_next (F2 i) (unhide R9))).2.1
          have R9c2 : ∀ i, (F i).cell? ⟨b9, 2, none⟩ = some (.int .i64 g) := fun i => (row13 (row_next (F2 i) (unhide R9))).2.2.1
          have R9c3 : ∀ i, (F i).cell? ⟨b9, 3, none⟩ = some (.int .i64 b) := fun i => (row13 (row_next (F2 i) (unhide R9))).2.2.2.1
          have R9c4 : ∀ i, (F i).cell? ⟨b9, 4, none⟩ = some (.int .i64 a) := fun i => (row13 (row_next (F2 i) (unhide R9))).2.2.2.2.1
          have R9c5 : ∀ i, (F i).cell? ⟨b9, 5, none⟩ = some (.int .i64 r2) := fun i => (row13 (row_next (F2 i) (unhide R9))).2.2.2.2.2.1
          have R9c6 : ∀ i, (F i).cell? ⟨b9, 6, none⟩ = some (.int .i64 g2) := fun i => (row13 (row_next (F2 i) (unhide R9))).2.2.2.2.2.2.1
          have R9c7 : ∀ i, (F i).cell? ⟨b9, 7, none⟩ = some (.int .i64 b2) := fun i => (row13 (row_next (F2 i) (unhide R9))).2.2.2.2.2.2.2.1
          have R9c8 : ∀ i, (F i).cell? ⟨b9, 8, none⟩ = some (.int .i64 a2) := fun i => (row13 (row_next (F2 i) (unhide R9))).2.2.2.2.2.2.2.2.1
          have R9c9 : ∀ i, (F i).cell? ⟨b9, 9, none⟩ = some (.int .i64 128) := fun i => (row13 (row_next (F2 i) (unhide R9))).2.2.2.2.2.2.2.2.2.1
          have R9c10 : ∀ i, (F i).cell? ⟨b9, 10, none⟩ = some (.int .i64 0) := fun i => (row13 (row_next (F2 i) (unhide R9))).2.2.2.2.2.2.2.2.2.2.1
          have R9c11 : ∀ i, (F i).cell? ⟨b9, 11, none⟩ = some (.int .i64 2688) := fun i => (row13 (row_next (F2 i) (unhide R9))).2.2.2.2.2.2.2.2.2.2.2.1
          have R9c12 : ∀ i, (F i).cell? ⟨b9, 12, none⟩ = some (.int .i64 0) := fun i => (row13 (row_next (F2 i) (unhide R9))).2.2.2.2.2.2.2.2.2.2.2.2
          replace F1 := hide F1
          replace F2 := hide F2
          refine wp_region_quiet_in (unhide F1) (by kernel_rfl) (by kernel_rfl) ?_
          repeat (go_big_quiet_step (first | with_reducible exact quiet_in (unhide F1) (unhide F2) (unhide H1 _) | with_reducible exact quiet_in (unhide F1) (unhide F2) (unhide H2 _)))
          refine wpQuiet_nil ?_
          rintro _ ⟨i, rfl⟩
          have hF := unhide F2 i
          clear F1 R9c0 R9c1 R9c2 R9c3 R9c4 R9c5 R9c6 R9c7 R9c8 R9c9 R9c10 R9c11 R9c12
          have R3' := hide (row_next hF (unhide R3))
          have R9' := hide (row_next hF (unhide R9))
          have HB' := hide (below_two (unhide HB) hF)
          clear hF R3 R9 HB
          go_wp2_with fail
          go_roundw
          case rel => exact ⟨n + 1, by omega, by go_num, R3', R9', HB'⟩
          case measure => simp [intOf]; omega
        · obtain rfl : n = 10 := by omega
          have m1 : decide (t < 0) = false := decide_eq_false (by omega)
          have m2 : decide (256 < t) = false := decide_eq_false (by omega)
          have m3 : decide (0 ≤ t) = true := decide_eq_true (by omega)
          have m4 : decide (t ≤ 256) = true := decide_eq_true (by omega)
          go_upto_region 19 with fail
          obtain ⟨I, F, hI, F1, F2⟩ := kept_worlds wr
          have R3c0 : ∀ i, (F i).cell? ⟨b3, 0, none⟩ = some (.int .i64 2) := fun i => (row13 (row_next (F2 i) (unhide R3))).1
          have R3c1 : ∀ i, (F i).cell? ⟨b3, 1, none⟩ = some (.int .i64 r) := fun i => (row13 (row_next (F2 i) (unhide R3))).2.1
          have R3c2 : ∀ i, (F i).cell? ⟨b3, 2, none⟩ = some (.int .i64 g) := fun i => (row13 (row_next (F2 i) (unhide R3))).2.2.1
          have R3c3 : ∀ i, (F i).cell? ⟨b3, 3, none⟩ = some (.int .i64 b) := fun i => (row13 (row_next (F2 i) (unhide R3))).2.2.2.1
          have R3c4 : ∀ i, (F i).cell? ⟨b3, 4, none⟩ = some (.int .i64 a) := fun i => (row13 (row_next (F2 i) (unhide R3))).2.2.2.2.1
          have R3c5 : ∀ i, (F i).cell? ⟨b3, 5, none⟩ = some (.int .i64 r2) := fun i => (row13 (row_next (F2 i) (unhide R3))).2.2.2.2.2.1
          have R3c6 : ∀ i, (F i).cell? ⟨b3, 6, none⟩ = some (.int .i64 g2) := fun i => (row13 (row_next (F2 i) (unhide R3))).2.2.2.2.2.2.1
          have R3c7 : ∀ i, (F i).cell? ⟨b3, 7, none⟩ = some (.int .i64 b2) := fun i => (row13 (row_next (F2 i) (unhide R3))).2.2.2.2.2.2.2.1
          have R3c8 : ∀ i, (F i).cell? ⟨b3, 8, none⟩ = some (.int .i64 a2) := fun i => (row13 (row_next (F2 i) (unhide R3))).2.2.2.2.2.2.2.2.1
          have R3c9 : ∀ i, (F i).cell? ⟨b3, 9, none⟩ = some (.int .i64 fx) := fun i => (row13 (row_next (F2 i) (unhide R3))).2.2.2.2.2.2.2.2.2.1
          have R3c10 : ∀ i, (F i).cell? ⟨b3, 10, none⟩ = some (.int .i64 fy) := fun i => (row13 (row_next (F2 i) (unhide R3))).2.2.2.2.2.2.2.2.2.2.1
          have R3c11 : ∀ i, (F i).cell? ⟨b3, 11, none⟩ = some (.int .i64 tx) := fun i => (row13 (row_next (F2 i) (unhide R3))).2.2.2.2.2.2.2.2.2.2.2.1
          have R3c12 : ∀ i, (F i).cell? ⟨b3, 12, none⟩ = some (.int .i64 ty) := fun i => (row13 (row_next (F2 i) (unhide R3))).2.2.2.2.2.2.2.2.2.2.2.2
          have R9c0 : ∀ i, (F i).cell? ⟨b9, 0, none⟩ = some (.int .i64 2) := fun i => (row13 (row_next (F2 i) (unhide R9))).1
          have R9c1 : ∀ i, (F i).cell? ⟨b9, 1, none⟩ = some (.int .i64 r) := fun i => (row13 (row_next (F2 i) (unhide R9))).2.1
          have R9c2 : ∀ i, (F i).cell? ⟨b9, 2, none⟩ = some (.int .i64 g) := fun i => (row13 (row_next (F2 i) (unhide R9))).2.2.1
          have R9c3 : ∀ i, (F i).cell? ⟨b9, 3, none⟩ = some (.int .i64 b) := fun i => (row13 (row_next (F2 i) (unhide R9))).2.2.2.1
          have R9c4 : ∀ i, (F i).cell? ⟨b9, 4, none⟩ = some (.int .i64 a) := fun i => (row13 (row_next (F2 i) (unhide R9))).2.2.2.2.1
          have R9c5 : ∀ i, (F i).cell? ⟨b9, 5, none⟩ = some (.int .i64 r2) := fun i => (row13 (row_next (F2 i) (unhide R9))).2.2.2.2.2.1
          have R9c6 : ∀ i, (F i).cell? ⟨b9, 6, none⟩ = some (.int .i64 g2) := fun i => (row13 (row_next (F2 i) (unhide R9))).2.2.2.2.2.2.1
          have R9c7 : ∀ i, (F i).cell? ⟨b9, 7, none⟩ = some (.int .i64 b2) := fun i => (row13 (row_next (F2 i) (unhide R9))).2.2.2.2.2.2.2.1
          have R9c8 : ∀ i, (F i).cell? ⟨b9, 8, none⟩ = some (.int .i64 a2) := fun i => (row13 (row_next (F2 i) (unhide R9))).2.2.2.2.2.2.2.2.1
          have R9c9 : ∀ i, (F i).cell? ⟨b9, 9, none⟩ = some (.int .i64 128) := fun i => (row13 (row_next (F2 i) (unhide R9))).2.2.2.2.2.2.2.2.2.1
          have R9c10 : ∀ i, (F i).cell? ⟨b9, 10, none⟩ = some (.int .i64 0) := fun i => (row13 (row_next (F2 i) (unhide R9))).2.2.2.2.2.2.2.2.2.2.1
          have R9c11 : ∀ i, (F i).cell? ⟨b9, 11, none⟩ = some (.int .i64 2688) := fun i => (row13 (row_next (F2 i) (unhide R9))).2.2.2.2.2.2.2.2.2.2.2.1
          have R9c12 : ∀ i, (F i).cell? ⟨b9, 12, none⟩ = some (.int .i64 0) := fun i => (row13 (row_next (F2 i) (unhide R9))).2.2.2.2.2.2.2.2.2.2.2.2
          replace F1 := hide F1
          replace F2 := hide F2
          refine wp_region_quiet_in (unhide F1) (by kernel_rfl) (by kernel_rfl) ?_
          repeat (go_big_quiet_step (first | with_reducible exact quiet_in (unhide F1) (unhide F2) (unhide HA _) | with_reducible exact quiet_in (unhide F1) (unhide F2) (unhide HE _) | with_reducible exact quiet_in (unhide F1) (unhide F2) (unhide HN _) | with_reducible exact quiet_in (unhide F1) (unhide F2) (unhide HLf _) | with_reducible exact quiet_in (unhide F1) (unhide F2) (unhide HLl _)))
          refine wpQuiet_nil ?_
          rintro _ ⟨i, rfl⟩
          have hF := unhide F2 i
          clear F1 R3c0 R3c1 R3c2 R3c3 R3c4 R3c5 R3c6 R3c7 R3c8 R3c9 R3c10 R3c11 R3c12 R9c0 R9c1 R9c2 R9c3 R9c4 R9c5 R9c6 R9c7 R9c8 R9c9 R9c10 R9c11 R9c12
          go_wp2_with fail
          go_ret
          exact ⟨rfl, below_two (unhide HB) hF⟩
  · go_enter Try.func3, Try.ntmps3
    go_wp2_with (go_at_call 9; go_must (refine (big_yes a0 len0 cap0 hl _).mono ?_); rintro e w1 ⟨rfl, rfl⟩)
    go_ret
    exact ⟨rfl, Below.refl _ _⟩
end Go.Proofs.Ytcpbagfmfjjjnaa
