/-
  LayE · PaintI · BlendI · BoxI · SurfI · SurfE · SurfH · ModeI: texts of one claim, in one.
-/
import Derived.Test.YthelfgippiimiabFnExactLayOverM3
import Derived.Test.YthelfgippiimiabFnExactLayOverM4
import Derived.Deep.RegionHeld3
import Derived.Deep.DeepCutAuto
import Derived.Deep.DeepFit
import Derived.Test.YthelfgippiimiabFnExactLayOverM2
import Derived.Laws.EntriesVeiled
import Derived.Test.YthelfgippiimiabFnExactLayOverM1
import Derived.BigQuiet

/-
  The exact law of LayOver, from what the program's function answers. (By laylaw.py.)
-/
namespace Go.Proofs.Ythelfgippiimiab
open Go.RowKit
set_option linter.unusedVariables false

set_option maxHeartbeats 16000000 in
set_option maxRecDepth 100000 in
theorem fnExactLayOver_of (EI : ∀ (x y : Int) (F : Nat → B4) (ao : Option Addr) (n ca : Nat) (hn : n ≤ 1048576) (hca : n ≤ ca) (hao : ao = none → ca = 0) (x' y' : Int) (G : Nat → B4) (bo : Option Addr) (m cb : Nat) (hm : m ≤ 1048576) (hcb : m ≤ cb) (hbo : bo = none → cb = 0) (mode fade : Int) (w : World) (PA : ∀ i, i < n → ClAt w ao i (F i)) (PB : ∀ i, i < m → ClAt w bo i (G i)), Calls Try.prog 27 #[.agg #[.int .i64 x, .int .i64 y, .slice ao n ca], .agg #[.int .i64 x', .int .i64 y', .slice bo m cb], .int .i64 mode, .int .i64 fade] w fun r w' => SurfRes w r w' x y n (layOn mode fade x y n F x' y' m G))
    (x y : Int) (ao : Option Addr) (n ca : Nat) (F : Nat → B4) (x' y' : Int) (bo : Option Addr) (m cb : Nat) (G : Nat → B4) (mode fade : Int) (w : World) (hA : n ≤ maxLen ∧ ∀ i, i < n → ClAt w ao i (F i)) (hB : m ≤ maxLen ∧ ∀ i, i < m → ClAt w bo i (G i)) :
    Calls Try.prog 6 #[.agg #[.int .i64 x, .int .i64 y, .slice ao n ca], .agg #[.int .i64 x', .int .i64 y', .slice bo m cb], .int .i64 mode, .int .i64 fade] w fun r w' => r = .returned (.bool true) ∧ Below w.heap.size w w' := by
  obtain ⟨hmA, PA⟩ := hA
  obtain ⟨hmB, PB⟩ := hB
  have Z := hide (szSurface_any x y ao n ca 1048576 (by omega) hmA)
  by_cases hbig : (1048576 : Int) < (n : Int)
  · rw [if_pos hbig] at Z
    go_enter Try.func6, Try.ntmps6
    go_wp2_with fail
    go_fit (unhide Z _)
    rintro r w1 ⟨rfl, hb⟩
    go_wp2_with fail
    go_ret
    exact ⟨rfl, below_two (al2_below _ _ _) hb⟩
  rw [if_neg hbig] at Z
  have hpos : ¬ ((1048576 : Int) - (n : Int) < 0) := by omega
  have hn : n ≤ 1048576 := by omega
  have Z2 := hide (szSurface_any x' y' bo m cb (1048576 - (n : Int)) (by omega) hmB)
  by_cases hbig2 : (1048576 : Int) - (n : Int) < (m : Int)
  · rw [if_pos hbig2] at Z2
    go_enter Try.func6, Try.ntmps6
    go_wp2_with fail
    go_fit (unhide Z _)
    rintro r w1 ⟨rfl, hb⟩
    obtain ⟨q0, q1, q2⟩ := row3 (row_next hb (al2_1 w (.cells #[.int .i64 x, .int .i64 y, .slice ao n ca] 58) (.cells #[.int .i64 x', .int .i64 y', .slice bo m cb] 58)))
    go_wp2_with fail
    go_fit (unhide Z2 _)
    rintro r w2 ⟨rfl, hb2⟩
    go_wp2_with fail
    go_ret
    exact ⟨rfl, below_two (below_two (al2_below _ _ _) hb) hb2⟩
  rw [if_neg hbig2] at Z2
  have hpos2 : ¬ ((1048576 : Int) - (n : Int) - (m : Int) < 0) := by omega
  have hm : m ≤ 1048576 := by omega
  have TSA := hide (fun u (hu : Below w.heap.size w u) => toSurface_any x y F ao n ca hn u (fun i hi => (PA i hi).next hu))
  have TSB := hide (fun u (hu : Below w.heap.size w u) => toSurface_any x' y' G bo m cb hm u (fun i hi => (PB i hi).next hu))
  have S := hide (fun (u : World) (s t base base' : Nat) (h1 : ColsV u base (.slice (some ⟨s, 0, none⟩) n n) n F) (h2 : ColsV u base' (.slice (some ⟨t, 0, none⟩) m m) m G) => specLayOver_any x y F (some ⟨s, 0, none⟩) n n hn (fun h => by cases h) x' y' G (some ⟨t, 0, none⟩) m m hm mode fade u h1.cols h2.cols)
  have I := hide (fun (u : World) (s t base base' : Nat) (h1 : ColsV u base (.slice (some ⟨s, 0, none⟩) n n) n F) (h2 : ColsV u base' (.slice (some ⟨t, 0, none⟩) m m) m G) => EI x y F (some ⟨s, 0, none⟩) n n hn (Nat.le_refl _) (fun h => by cases h) x' y' G (some ⟨t, 0, none⟩) m m hm (Nat.le_refl _) (fun h => by cases h) mode fade u h1.cols h2.cols)
  have EXA := hide (fun (u : World) (s t base base' : Nat) (h1 : ColsV u base (.slice (some ⟨s, 0, none⟩) n n) n F) (h2 : ColsV u base' (.slice (some ⟨t, 0, none⟩) n n) n F) => eqSurface_same x y F (some ⟨s, 0, none⟩) (some ⟨t, 0, none⟩) n n n hn u h1.cols h2.cols)
  have EXB := hide (fun (u : World) (s t base base' : Nat) (h1 : ColsV u base (.slice (some ⟨s, 0, none⟩) m m) m G) (h2 : ColsV u base' (.slice (some ⟨t, 0, none⟩) m m) m G) => eqSurface_same x' y' G (some ⟨s, 0, none⟩) (some ⟨t, 0, none⟩) m m m hm u h1.cols h2.cols)
  have MXA := hide (fun (u : World) (s base : Nat) (h1 : ColsV u base (.slice (some ⟨s, 0, none⟩) n n) n F) => markCols_v x y _ base n 1 F (by omega) hn u h1)
  have MXB := hide (fun (u : World) (s base : Nat) (h1 : ColsV u base (.slice (some ⟨s, 0, none⟩) m m) m G) => markCols_v x' y' _ base m (1 + n * 4) G (by omega) hm u h1)
  generalize layOn mode fade x y n F x' y' m G = mf at S I
  unfold SurfRes at S I
  have EXM := hide (fun (u : World) (xx yy : Option Addr) (cx cy base base' : Nat) (h1 : ColsV u base (.slice xx n cx) n mf) (h2 : ColsV u base' (.slice yy n cy) n mf) => eqSurface_same x y mf xx yy n cx cy hn u h1.cols h2.cols)
  have MXM := hide (fun (u : World) (xx : Option Addr) (cx base : Nat) (h1 : ColsV u base (.slice xx n cx) n mf) => markCols_v x y _ base n 1 mf (by omega) hn u h1)
  have HXM := hide (fun (u : World) (xx : Option Addr) (cx base : Nat) (h1 : MarkedCK u base (.slice xx n cx) n 1) => heldCols_v x y _ base n hn u h1)
  have hq1 : ¬ (((1 + n * 4 + m * 4 : Nat) : Int) < 0) := by omega
  have hq2 : ¬ (((1 + n * 4 : Nat) : Int) < 0) := by omega
  generalize ((1 + n * 4 + m * 4 : Nat) : Int) = Q1 at MXB hq1
  clear PA PB hmA hmB hbig hbig2 hn hm EI
  go_enter Try.func6, Try.ntmps6
  go_upto_region 1 with fail
  have RA := hide (al2_0 w (.cells #[.int .i64 x, .int .i64 y, .slice ao n ca] 58) (.cells #[.int .i64 x', .int .i64 y', .slice bo m cb] 58))
  have RB := hide (al2_1 w (.cells #[.int .i64 x, .int .i64 y, .slice ao n ca] 58) (.cells #[.int .i64 x', .int .i64 y', .slice bo m cb] 58))
  have HB := hide (al2_below w (.cells #[.int .i64 x, .int .i64 y, .slice ao n ca] 58) (.cells #[.int .i64 x', .int .i64 y', .slice bo m cb] 58))
  have CUR := hide (show w.heap.size + 2 ≤ ((w.alloc (.cells #[.int .i64 x, .int .i64 y, .slice ao n ca] 58)).alloc (.cells #[.int .i64 x', .int .i64 y', .slice bo m cb] 58)).heap.size by rw [al2_size]; exact Nat.le_refl _)
  obtain ⟨c0, hc0⟩ : ∃ b, b = w.heap.size + 2 := ⟨_, rfl⟩
  obtain ⟨b_RB, hbB⟩ : ∃ b, b = w.heap.size + 1 := ⟨_, rfl⟩
  obtain ⟨b_RA, hbA⟩ : ∃ b, b = w.heap.size := ⟨_, rfl⟩
  have ORD := hide (show w.heap.size ≤ b_RA ∧ b_RA < b_RB ∧ b_RB < c0 by omega)
  rw [← hc0] at CUR
  rw [← hbB] at RB
  rw [← hbA] at RA
  rw [← hbB, ← hbA]
  clear hc0 hbB hbA
  generalize (w.alloc (.cells #[.int .i64 x, .int .i64 y, .slice ao n ca] 58)).alloc (.cells #[.int .i64 x', .int .i64 y', .slice bo m cb] 58) = W0 at *
  obtain ⟨q_RA_0, q_RA_1, q_RA_2⟩ := row3 (unhide RA)
  go_wp2_with fail
  clear q_RA_0 q_RA_1 q_RA_2
  go_fit (unhide Z _)
  rintro r w1 ⟨rfl, hb⟩
  replace RA := hide (row_next hb (unhide RA))
  replace RB := hide (row_next hb (unhide RB))
  replace CUR := hide (Nat.le_trans (unhide CUR) (Below.size hb))
  replace HB := hide (below_two (unhide HB) hb)
  clear hb
  obtain ⟨q_RB_0, q_RB_1, q_RB_2⟩ := row3 (unhide RB)
  go_wp2_with fail
  clear q_RB_0 q_RB_1 q_RB_2
  go_fit (unhide Z2 _)
  rintro r w2 ⟨rfl, hb⟩
  replace RA := hide (row_next hb (unhide RA))
  replace RB := hide (row_next hb (unhide RB))
  replace CUR := hide (Nat.le_trans (unhide CUR) (Below.size hb))
  replace HB := hide (below_two (unhide HB) hb)
  clear hb
  clear Z Z2
  go_wp2_with fail
  have k0 := hide (show ∀ u, Below w2.heap.size w2 u → (u.cell? ⟨b_RA, 0, none⟩ = some (.int .i64 x) ∧ u.cell? ⟨b_RA, 1, none⟩ = some (.int .i64 y) ∧ u.cell? ⟨b_RA, 2, none⟩ = some (.slice ao n ca) ∧ u.cell? ⟨b_RB, 0, none⟩ = some (.int .i64 x') ∧ u.cell? ⟨b_RB, 1, none⟩ = some (.int .i64 y') ∧ u.cell? ⟨b_RB, 2, none⟩ = some (.slice bo m cb) ∧ Below w2.heap.size w2 u) from fun u h => ⟨(row3 (row_next h (unhide RA))).1, (row3 (row_next h (unhide RA))).2.1, (row3 (row_next h (unhide RA))).2.2, (row3 (row_next h (unhide RB))).1, (row3 (row_next h (unhide RB))).2.1, (row3 (row_next h (unhide RB))).2.2, h⟩)
  have kS := hide (show ∀ u, (u.cell? ⟨b_RA, 0, none⟩ = some (.int .i64 x) ∧ u.cell? ⟨b_RA, 1, none⟩ = some (.int .i64 y) ∧ u.cell? ⟨b_RA, 2, none⟩ = some (.slice ao n ca) ∧ u.cell? ⟨b_RB, 0, none⟩ = some (.int .i64 x') ∧ u.cell? ⟨b_RB, 1, none⟩ = some (.int .i64 y') ∧ u.cell? ⟨b_RB, 2, none⟩ = some (.slice bo m cb) ∧ Below w2.heap.size w2 u) → Below w2.heap.size w2 u from fun u h => h.2.2.2.2.2.2)
  have k00 := hide (unhide k0 _ (Below.refl _ _).drew)
  have hd : w2.drew.heap.size = w2.heap.size := rfl
  go_cut [10] (fun s u => ∃ q a c, s = .pointer (some ⟨q, 0, none⟩) ∧ u.heap[q]? = some (.cells #[.int .i64 x, .int .i64 y, .slice a n c] 62 (0, 0)) ∧ ColsV u w2.heap.size (.slice a n c) n mf ∧ some q ≠ (Value.slice a n c).ownBlock ∧ w2.heap.size ≤ q ∧ Below w2.heap.size w2 u)
  case first =>
    go_region_held3 (fun u => u.cell? ⟨b_RA, 0, none⟩ = some (.int .i64 x) ∧ u.cell? ⟨b_RA, 1, none⟩ = some (.int .i64 y) ∧ u.cell? ⟨b_RA, 2, none⟩ = some (.slice ao n ca) ∧ u.cell? ⟨b_RB, 0, none⟩ = some (.int .i64 x') ∧ u.cell? ⟨b_RB, 1, none⟩ = some (.int .i64 y') ∧ u.cell? ⟨b_RB, 2, none⟩ = some (.slice bo m cb) ∧ Below w2.heap.size w2 u) ((first | with_reducible exact unhide k00 | (refine unhide k0 _ ?_; first | with_reducible assumption | (with_reducible refine below_new _ ?_ (Nat.le_refl _); with_reducible assumption) | (with_reducible refine Below.drew ?_; with_reducible exact below_new _ (Below.refl _ _) (Nat.le_refl _)) | (with_reducible refine below_put3 ?_ ?_ _ _ _ <;> first | with_reducible assumption | omega)))) (first | (go_at_call 26; go_fit (unhide TSA _ (below_two (unhide HB) (unhide kS _ (by with_reducible assumption)))); rintro r y1 ⟨s1, rfl, hpv, hb1⟩; have hW1 := below_after hb1 (unhide kS _ (by with_reducible assumption)) (Nat.le_refl _); have hsz := hb1.size; have hge := hW1.size; (first | (have zz := carry3 (.int .i64 0) (.int .i64 0) (.slice none 0 0) 62 hb1 (by with_reducible assumption); obtain ⟨z0, z1, z2, v0, v1, v2, hz, hzl⟩ := zz) | (have zz := carry3 (.int .i64 0) (.int .i64 0) (.slice none 0 0) 62 hb1 (al1_0 _ _); obtain ⟨z0, z1, z2, v0, v1, v2, hz, hzl⟩ := zz; try simp only [hd] at z0 z1 z2 v0 v1 v2 hz hzl) | skip); have pvA := hide hpv; clear hpv) | (go_at_call 26; go_fit (unhide TSB _ (below_two (unhide HB) (unhide kS _ (by with_reducible assumption)))); rintro r y1 ⟨s2, rfl, hpv, hb1⟩; have hW1 := below_after hb1 (unhide kS _ (by with_reducible assumption)) (Nat.le_refl _); have hsz := hb1.size; have hge := hW1.size; (first | (have zz := carry3 (.int .i64 0) (.int .i64 0) (.slice none 0 0) 62 hb1 (by with_reducible assumption); obtain ⟨z0, z1, z2, v0, v1, v2, hz, hzl⟩ := zz) | (have zz := carry3 (.int .i64 0) (.int .i64 0) (.slice none 0 0) 62 hb1 (al1_0 _ _); obtain ⟨z0, z1, z2, v0, v1, v2, hz, hzl⟩ := zz; try simp only [hd] at z0 z1 z2 v0 v1 v2 hz hzl) | skip); (first | (replace pvA := hide ((unhide pvA).next hb1)) | (replace pvA := hide (((unhide pvA).next (al1_below _ _)).next hb1)) | skip); have pvB := hide hpv; clear hpv) | (go_at_call 25; (first | go_fit (unhide S _ _ _ _ _ (unhide pvA) (unhide pvB)) | go_fit (unhide S _ _ _ _ _ ((unhide pvA).next (al1_below _ _)) ((unhide pvB).next (al1_below _ _)))); intro r y1 hres; obtain ⟨a1, c1, rfl, hp1, hb1⟩ := hres; have pr := hide (hp1.low (Below.size (unhide kS _ (by with_reducible assumption)))); (first | (have nq := hide (hp1.notOld (heap_lt (by with_reducible assumption))); skip) | (have nq := hide (hp1.notOld (new_ltc _ _)); try simp only [hd] at nq) | skip); have hW1 := below_after hb1 (unhide kS _ (by with_reducible assumption)) (Nat.le_refl _); have hsz := hb1.size; have hge := hW1.size; (first | (have zz := carry3 (.int .i64 0) (.int .i64 0) (.slice none 0 0) 62 hb1 (by with_reducible assumption); obtain ⟨z0, z1, z2, v0, v1, v2, hz, hzl⟩ := zz) | (have zz := carry3 (.int .i64 0) (.int .i64 0) (.slice none 0 0) 62 hb1 (al1_0 _ _); obtain ⟨z0, z1, z2, v0, v1, v2, hz, hzl⟩ := zz; try simp only [hd] at z0 z1 z2 v0 v1 v2 hz hzl) | skip); skip; clear hp1))
    all_goals
      go_wp2_with fail
      go_meet
      first
      | (refine ⟨_, a1, c1, rfl, ?_, ?_, unhide nq, ?_, ?_⟩; exact put3_row hz; exact (unhide pr).put3 (unhide nq); (first | with_reducible exact Nat.le_refl _ | omega); exact unhide kS _ (by with_reducible assumption))
      | exact ⟨_, a1, c1, rfl, new_row _ _, (unhide pr).next (al1_below _ _), (unhide pr).notNew (Nat.le_refl _), hW1.size, unhide kS _ (by with_reducible assumption)⟩
  case rest =>
    obtain ⟨b_R0, a_p0, c_p0, rfl, hr, hp, hnot, hge, hb⟩ := hcut
    have hql := heap_lt hr
    have lo0 := CUR
    replace RA := hide (row_next hb (unhide RA))
    replace RB := hide (row_next hb (unhide RB))
    replace CUR := hide (Nat.le_trans (unhide CUR) (Below.size hb))
    replace HB := hide (below_two (unhide HB) hb)
    clear hb
    obtain ⟨hi_p0, hhi⟩ : ∃ h, h = wc.heap.size := ⟨_, rfl⟩
    replace CUR := hide (show hi_p0 ≤ wc.heap.size by rw [hhi]; exact Nat.le_refl _)
    have B_p0 := hide (show ∀ k, (Value.ownBlock (.slice a_p0 n c_p0)) = some k → w2.heap.size ≤ k ∧ k < hi_p0 from fun k hk => by rw [hhi]; exact hp.lt k hk)
    rw [← hhi] at hql
    clear hhi
    have p0 := hide hp
    have R0 := hide hr
    have nq_R0_p0 := hide hnot
    clear hp hr hnot
    replace hge := hide hge
    replace hql := hide hql
    clear k0 kS k00 hd
    generalize wc = X50 at *
    generalize w2.heap.size = lo_p0 at p0 B_p0 lo0 hge
    replace ORD := hide (And.intro (unhide ORD) (And.intro (unhide lo0) (And.intro (unhide hge) (unhide hql))))
    clear lo0 hge hql
    obtain ⟨q_RA_0, q_RA_1, q_RA_2⟩ := row3 (unhide RA)
    go_wp2_with fail
    clear q_RA_0 q_RA_1 q_RA_2
    go_fit (unhide TSA _ (unhide HB))
    rintro r w3 ⟨s_a, rfl, hp, hb⟩
    have lo0 := CUR
    have lo1 := hide (Below.size hb)
    replace RA := hide (row_next hb (unhide RA))
    replace RB := hide (row_next hb (unhide RB))
    replace R0 := hide (row_next hb (unhide R0))
    replace p0 := hide ((unhide p0).next hb)
    replace CUR := hide (Nat.le_trans (unhide CUR) (Below.size hb))
    replace HB := hide (below_two (unhide HB) hb)
    clear hb
    obtain ⟨hi_pa, hhi⟩ : ∃ h, h = w3.heap.size := ⟨_, rfl⟩
    replace CUR := hide (show hi_pa ≤ w3.heap.size by rw [hhi]; exact Nat.le_refl _)
    have B_pa := hide (show ∀ k, (Value.ownBlock (.slice (some ⟨s_a, 0, none⟩) n n)) = some k → X50.heap.size ≤ k ∧ k < hi_pa from fun k hk => by rw [hhi]; exact hp.lt k hk)
    rw [← hhi] at lo1
    clear hhi
    have pa := hide hp
    clear hp
    generalize X50.heap.size = lo_pa at pa B_pa lo0 lo1
    replace ORD := hide (And.intro (unhide ORD) (And.intro (unhide lo0) (unhide lo1)))
    clear lo0 lo1
    go_upto_region 10 with fail
    have lo0 := CUR
    have R1 := hide (new_row w3 (.cells #[.int .i64 x, .int .i64 y, .slice (some ⟨s_a, 0, none⟩) n n] 62))
    have hb := al1_below w3 (.cells #[.int .i64 x, .int .i64 y, .slice (some ⟨s_a, 0, none⟩) n n] 62)
    replace RA := hide (row_next hb (unhide RA))
    replace RB := hide (row_next hb (unhide RB))
    replace R0 := hide (row_next hb (unhide R0))
    replace p0 := hide ((unhide p0).next hb)
    replace pa := hide ((unhide pa).next hb)
    replace CUR := hide (Nat.le_trans (unhide CUR) (Below.size hb))
    replace HB := hide (below_two (unhide HB) hb)
    clear hb
    replace CUR := hide (show w3.heap.size + 1 ≤ (w3.alloc (.cells #[.int .i64 x, .int .i64 y, .slice (some ⟨s_a, 0, none⟩) n n] 62)).heap.size by rw [al1_size]; exact Nat.le_refl _)
    generalize w3.alloc (.cells #[.int .i64 x, .int .i64 y, .slice (some ⟨s_a, 0, none⟩) n n] 62) = W4 at *
    generalize w3.heap.size = b_R1 at R1 CUR lo0 ⊢
    replace ORD := hide (And.intro (unhide ORD) (unhide lo0))
    clear lo0
    obtain ⟨q_RB_0, q_RB_1, q_RB_2⟩ := row3 (unhide RB)
    go_wp2_with fail
    clear q_RB_0 q_RB_1 q_RB_2
    go_fit (unhide TSB _ (unhide HB))
    rintro r w5 ⟨s_b, rfl, hp, hb⟩
    have lo0 := CUR
    have lo1 := hide (Below.size hb)
    replace RA := hide (row_next hb (unhide RA))
    replace RB := hide (row_next hb (unhide RB))
    replace R0 := hide (row_next hb (unhide R0))
    replace R1 := hide (row_next hb (unhide R1))
    replace p0 := hide ((unhide p0).next hb)
    replace pa := hide ((unhide pa).next hb)
    replace CUR := hide (Nat.le_trans (unhide CUR) (Below.size hb))
    replace HB := hide (below_two (unhide HB) hb)
    clear hb
    obtain ⟨hi_pb, hhi⟩ : ∃ h, h = w5.heap.size := ⟨_, rfl⟩
    replace CUR := hide (show hi_pb ≤ w5.heap.size by rw [hhi]; exact Nat.le_refl _)
    have B_pb := hide (show ∀ k, (Value.ownBlock (.slice (some ⟨s_b, 0, none⟩) m m)) = some k → W4.heap.size ≤ k ∧ k < hi_pb from fun k hk => by rw [hhi]; exact hp.lt k hk)
    rw [← hhi] at lo1
    clear hhi
    have pb := hide hp
    clear hp
    generalize W4.heap.size = lo_pb at pb B_pb lo0 lo1
    replace ORD := hide (And.intro (unhide ORD) (And.intro (unhide lo0) (unhide lo1)))
    clear lo0 lo1
    go_upto_region 11 with fail
    have lo0 := CUR
    have R2 := hide (new_row w5 (.cells #[.int .i64 x', .int .i64 y', .slice (some ⟨s_b, 0, none⟩) m m] 62))
    have hb := al1_below w5 (.cells #[.int .i64 x', .int .i64 y', .slice (some ⟨s_b, 0, none⟩) m m] 62)
    replace RA := hide (row_next hb (unhide RA))
    replace RB := hide (row_next hb (unhide RB))
    replace R0 := hide (row_next hb (unhide R0))
    replace R1 := hide (row_next hb (unhide R1))
    replace p0 := hide ((unhide p0).next hb)
    replace pa := hide ((unhide pa).next hb)
    replace pb := hide ((unhide pb).next hb)
    replace CUR := hide (Nat.le_trans (unhide CUR) (Below.size hb))
    replace HB := hide (below_two (unhide HB) hb)
    clear hb
    replace CUR := hide (show w5.heap.size + 1 ≤ (w5.alloc (.cells #[.int .i64 x', .int .i64 y', .slice (some ⟨s_b, 0, none⟩) m m] 62)).heap.size by rw [al1_size]; exact Nat.le_refl _)
    generalize w5.alloc (.cells #[.int .i64 x', .int .i64 y', .slice (some ⟨s_b, 0, none⟩) m m] 62) = W6 at *
    generalize w5.heap.size = b_R2 at R2 CUR lo0 ⊢
    replace ORD := hide (And.intro (unhide ORD) (unhide lo0))
    clear lo0
    obtain ⟨q_R1_0, q_R1_1, q_R1_2⟩ := row3 (unhide R1)
    obtain ⟨q_R2_0, q_R2_1, q_R2_2⟩ := row3 (unhide R2)
    go_wp2_with fail
    clear q_R1_0 q_R1_1 q_R1_2 q_R2_0 q_R2_1 q_R2_2
    go_fit (unhide I _ _ _ _ _ (unhide pa) (unhide pb))
    intro r w7 hres; obtain ⟨a_g, c_g, rfl, hp, hb⟩ := hres
    have lo0 := CUR
    have lo1 := hide (Below.size hb)
    replace RA := hide (row_next hb (unhide RA))
    replace RB := hide (row_next hb (unhide RB))
    replace R0 := hide (row_next hb (unhide R0))
    replace R1 := hide (row_next hb (unhide R1))
    replace R2 := hide (row_next hb (unhide R2))
    replace p0 := hide ((unhide p0).next hb)
    replace pa := hide ((unhide pa).next hb)
    replace pb := hide ((unhide pb).next hb)
    replace CUR := hide (Nat.le_trans (unhide CUR) (Below.size hb))
    replace HB := hide (below_two (unhide HB) hb)
    clear hb
    obtain ⟨hi_pg, hhi⟩ : ∃ h, h = w7.heap.size := ⟨_, rfl⟩
    replace CUR := hide (show hi_pg ≤ w7.heap.size by rw [hhi]; exact Nat.le_refl _)
    have B_pg := hide (show ∀ k, (Value.ownBlock (.slice a_g n c_g)) = some k → W6.heap.size ≤ k ∧ k < hi_pg from fun k hk => by rw [hhi]; exact hp.lt k hk)
    rw [← hhi] at lo1
    clear hhi
    have pg := hide hp
    clear hp
    generalize W6.heap.size = lo_pg at pg B_pg lo0 lo1
    replace ORD := hide (And.intro (unhide ORD) (And.intro (unhide lo0) (unhide lo1)))
    clear lo0 lo1
    go_upto_region 12 with fail
    have lo0 := CUR
    have R3 := hide (new_row w7 (.cells #[.int .i64 x, .int .i64 y, .slice a_g n c_g] 62))
    have hb := al1_below w7 (.cells #[.int .i64 x, .int .i64 y, .slice a_g n c_g] 62)
    replace RA := hide (row_next hb (unhide RA))
    replace RB := hide (row_next hb (unhide RB))
    replace R0 := hide (row_next hb (unhide R0))
    replace R1 := hide (row_next hb (unhide R1))
    replace R2 := hide (row_next hb (unhide R2))
    replace p0 := hide ((unhide p0).next hb)
    replace pa := hide ((unhide pa).next hb)
    replace pb := hide ((unhide pb).next hb)
    replace pg := hide ((unhide pg).next hb)
    replace CUR := hide (Nat.le_trans (unhide CUR) (Below.size hb))
    replace HB := hide (below_two (unhide HB) hb)
    clear hb
    replace CUR := hide (show w7.heap.size + 1 ≤ (w7.alloc (.cells #[.int .i64 x, .int .i64 y, .slice a_g n c_g] 62)).heap.size by rw [al1_size]; exact Nat.le_refl _)
    generalize w7.alloc (.cells #[.int .i64 x, .int .i64 y, .slice a_g n c_g] 62) = W8 at *
    generalize w7.heap.size = b_R3 at R3 CUR lo0 ⊢
    replace ORD := hide (And.intro (unhide ORD) (unhide lo0))
    clear lo0
    obtain ⟨q_R3_0, q_R3_1, q_R3_2⟩ := row3 (unhide R3)
    obtain ⟨q_R0_0, q_R0_1, q_R0_2⟩ := row3 (unhide R0)
    go_wp2_with fail
    clear q_R3_0 q_R3_1 q_R3_2 q_R0_0 q_R0_1 q_R0_2
    go_fit (unhide EXM _ _ _ _ _ _ _ (unhide pg) (unhide p0))
    rintro r w9 ⟨rfl, hb⟩
    replace RA := hide (row_next hb (unhide RA))
    replace RB := hide (row_next hb (unhide RB))
    replace R0 := hide (row_next hb (unhide R0))
    replace R1 := hide (row_next hb (unhide R1))
    replace R2 := hide (row_next hb (unhide R2))
    replace R3 := hide (row_next hb (unhide R3))
    replace p0 := hide ((unhide p0).next hb)
    replace pa := hide ((unhide pa).next hb)
    replace pb := hide ((unhide pb).next hb)
    replace pg := hide ((unhide pg).next hb)
    replace CUR := hide (Nat.le_trans (unhide CUR) (Below.size hb))
    replace HB := hide (below_two (unhide HB) hb)
    clear hb
    go_wp2_with fail
    have k0 := hide (show ∀ u, Below w9.heap.size w9 u → (u.cell? ⟨b_R1, 0, none⟩ = some (.int .i64 x) ∧ u.cell? ⟨b_R1, 1, none⟩ = some (.int .i64 y) ∧ u.cell? ⟨b_R1, 2, none⟩ = some (.slice (some ⟨s_a, 0, none⟩) n n) ∧ u.cell? ⟨b_RA, 0, none⟩ = some (.int .i64 x) ∧ u.cell? ⟨b_RA, 1, none⟩ = some (.int .i64 y) ∧ u.cell? ⟨b_RA, 2, none⟩ = some (.slice ao n ca) ∧ Below w9.heap.size w9 u) from fun u h => ⟨(row3 (row_next h (unhide R1))).1, (row3 (row_next h (unhide R1))).2.1, (row3 (row_next h (unhide R1))).2.2, (row3 (row_next h (unhide RA))).1, (row3 (row_next h (unhide RA))).2.1, (row3 (row_next h (unhide RA))).2.2, h⟩)
    have kS := hide (show ∀ u, (u.cell? ⟨b_R1, 0, none⟩ = some (.int .i64 x) ∧ u.cell? ⟨b_R1, 1, none⟩ = some (.int .i64 y) ∧ u.cell? ⟨b_R1, 2, none⟩ = some (.slice (some ⟨s_a, 0, none⟩) n n) ∧ u.cell? ⟨b_RA, 0, none⟩ = some (.int .i64 x) ∧ u.cell? ⟨b_RA, 1, none⟩ = some (.int .i64 y) ∧ u.cell? ⟨b_RA, 2, none⟩ = some (.slice ao n ca) ∧ Below w9.heap.size w9 u) → Below w9.heap.size w9 u from fun u h => h.2.2.2.2.2.2)
    have k00 := hide (unhide k0 _ (Below.refl _ _).drew)
    have hd : w9.drew.heap.size = w9.heap.size := rfl
    go_cut [52] (fun s u => s = .bool false ∧ Below w9.heap.size w9 u)
    case first =>
      go_region_held3 (fun u => u.cell? ⟨b_R1, 0, none⟩ = some (.int .i64 x) ∧ u.cell? ⟨b_R1, 1, none⟩ = some (.int .i64 y) ∧ u.cell? ⟨b_R1, 2, none⟩ = some (.slice (some ⟨s_a, 0, none⟩) n n) ∧ u.cell? ⟨b_RA, 0, none⟩ = some (.int .i64 x) ∧ u.cell? ⟨b_RA, 1, none⟩ = some (.int .i64 y) ∧ u.cell? ⟨b_RA, 2, none⟩ = some (.slice ao n ca) ∧ Below w9.heap.size w9 u) ((first | with_reducible exact unhide k00 | (refine unhide k0 _ ?_; first | with_reducible assumption | (with_reducible refine below_new _ ?_ (Nat.le_refl _); with_reducible assumption) | (with_reducible refine Below.drew ?_; with_reducible exact below_new _ (Below.refl _ _) (Nat.le_refl _)) | (with_reducible refine below_put3 ?_ ?_ _ _ _ <;> first | with_reducible assumption | omega)))) (first | (go_at_call 26; go_fit (unhide TSA _ (below_two (unhide HB) (unhide kS _ (by with_reducible assumption)))); rintro r y1 ⟨s1, rfl, hpv, hb1⟩; have hW1 := below_after hb1 (unhide kS _ (by with_reducible assumption)) (Nat.le_refl _); have hsz := hb1.size; have hge := hW1.size; have pv := hide hpv; clear hpv) | (go_at_call 28; (first | go_fit (unhide EXA _ _ _ _ _ ((unhide pa).next (unhide kS _ (by with_reducible assumption))) (unhide pv))); rintro r y1 ⟨rfl, hb1⟩; have hW1 := below_after hb1 (unhide kS _ (by with_reducible assumption)) (Nat.le_refl _); have hsz := hb1.size; have hge := hW1.size))
      all_goals
        go_wp2_with fail
        go_meet
        exact ⟨rfl, unhide kS _ (by with_reducible assumption)⟩
    case rest =>
      obtain ⟨rfl, hb⟩ := hcut
      replace RA := hide (row_next hb (unhide RA))
      replace RB := hide (row_next hb (unhide RB))
      replace R0 := hide (row_next hb (unhide R0))
      replace R1 := hide (row_next hb (unhide R1))
      replace R2 := hide (row_next hb (unhide R2))
      replace R3 := hide (row_next hb (unhide R3))
      replace p0 := hide ((unhide p0).next hb)
      replace pa := hide ((unhide pa).next hb)
      replace pb := hide ((unhide pb).next hb)
      replace pg := hide ((unhide pg).next hb)
      replace CUR := hide (Nat.le_trans (unhide CUR) (Below.size hb))
      replace HB := hide (below_two (unhide HB) hb)
      clear hb k0 kS k00 hd
      generalize wc = X60 at *
      go_wp2_with fail
      have k0 := hide (show ∀ u, Below X60.heap.size X60 u → (u.cell? ⟨b_R2, 0, none⟩ = some (.int .i64 x') ∧ u.cell? ⟨b_R2, 1, none⟩ = some (.int .i64 y') ∧ u.cell? ⟨b_R2, 2, none⟩ = some (.slice (some ⟨s_b, 0, none⟩) m m) ∧ u.cell? ⟨b_RB, 0, none⟩ = some (.int .i64 x') ∧ u.cell? ⟨b_RB, 1, none⟩ = some (.int .i64 y') ∧ u.cell? ⟨b_RB, 2, none⟩ = some (.slice bo m cb) ∧ Below X60.heap.size X60 u) from fun u h => ⟨(row3 (row_next h (unhide R2))).1, (row3 (row_next h (unhide R2))).2.1, (row3 (row_next h (unhide R2))).2.2, (row3 (row_next h (unhide RB))).1, (row3 (row_next h (unhide RB))).2.1, (row3 (row_next h (unhide RB))).2.2, h⟩)
      have kS := hide (show ∀ u, (u.cell? ⟨b_R2, 0, none⟩ = some (.int .i64 x') ∧ u.cell? ⟨b_R2, 1, none⟩ = some (.int .i64 y') ∧ u.cell? ⟨b_R2, 2, none⟩ = some (.slice (some ⟨s_b, 0, none⟩) m m) ∧ u.cell? ⟨b_RB, 0, none⟩ = some (.int .i64 x') ∧ u.cell? ⟨b_RB, 1, none⟩ = some (.int .i64 y') ∧ u.cell? ⟨b_RB, 2, none⟩ = some (.slice bo m cb) ∧ Below X60.heap.size X60 u) → Below X60.heap.size X60 u from fun u h => h.2.2.2.2.2.2)
      have k00 := hide (unhide k0 _ (Below.refl _ _).drew)
      have hd : X60.drew.heap.size = X60.heap.size := rfl
      go_cut [57] (fun s u => s = .bool false ∧ Below X60.heap.size X60 u)
      case first =>
        go_region_held3 (fun u => u.cell? ⟨b_R2, 0, none⟩ = some (.int .i64 x') ∧ u.cell? ⟨b_R2, 1, none⟩ = some (.int .i64 y') ∧ u.cell? ⟨b_R2, 2, none⟩ = some (.slice (some ⟨s_b, 0, none⟩) m m) ∧ u.cell? ⟨b_RB, 0, none⟩ = some (.int .i64 x') ∧ u.cell? ⟨b_RB, 1, none⟩ = some (.int .i64 y') ∧ u.cell? ⟨b_RB, 2, none⟩ = some (.slice bo m cb) ∧ Below X60.heap.size X60 u) ((first | with_reducible exact unhide k00 | (refine unhide k0 _ ?_; first | with_reducible assumption | (with_reducible refine below_new _ ?_ (Nat.le_refl _); with_reducible assumption) | (with_reducible refine Below.drew ?_; with_reducible exact below_new _ (Below.refl _ _) (Nat.le_refl _)) | (with_reducible refine below_put3 ?_ ?_ _ _ _ <;> first | with_reducible assumption | omega)))) (first | (go_at_call 26; go_fit (unhide TSB _ (below_two (unhide HB) (unhide kS _ (by with_reducible assumption)))); rintro r y1 ⟨s1, rfl, hpv, hb1⟩; have hW1 := below_after hb1 (unhide kS _ (by with_reducible assumption)) (Nat.le_refl _); have hsz := hb1.size; have hge := hW1.size; have pv := hide hpv; clear hpv) | (go_at_call 28; (first | go_fit (unhide EXB _ _ _ _ _ ((unhide pb).next (unhide kS _ (by with_reducible assumption))) (unhide pv))); rintro r y1 ⟨rfl, hb1⟩; have hW1 := below_after hb1 (unhide kS _ (by with_reducible assumption)) (Nat.le_refl _); have hsz := hb1.size; have hge := hW1.size))
        all_goals
          go_wp2_with fail
          go_meet
          exact ⟨rfl, unhide kS _ (by with_reducible assumption)⟩
      case rest =>
        obtain ⟨rfl, hb⟩ := hcut
        replace RA := hide (row_next hb (unhide RA))
        replace RB := hide (row_next hb (unhide RB))
        replace R0 := hide (row_next hb (unhide R0))
        replace R1 := hide (row_next hb (unhide R1))
        replace R2 := hide (row_next hb (unhide R2))
        replace R3 := hide (row_next hb (unhide R3))
        replace p0 := hide ((unhide p0).next hb)
        replace pa := hide ((unhide pa).next hb)
        replace pb := hide ((unhide pb).next hb)
        replace pg := hide ((unhide pg).next hb)
        replace CUR := hide (Nat.le_trans (unhide CUR) (Below.size hb))
        replace HB := hide (below_two (unhide HB) hb)
        clear hb k0 kS k00 hd
        generalize wc = X61 at *
        obtain ⟨q_R1_0, q_R1_1, q_R1_2⟩ := row3 (unhide R1)
        go_wp2_with fail
        clear q_R1_0 q_R1_1 q_R1_2
        go_fit (unhide MXA _ _ _ (unhide pa))
        rintro r w10 ⟨rfl, hm, hg⟩
        replace RA := hide ((hg.block b_RA (heap_lt (unhide RA)) (fun e => by have h := unhide B_pa _ e.symm; have o := unhide ORD; omega)).trans (unhide RA))
        replace RB := hide ((hg.block b_RB (heap_lt (unhide RB)) (fun e => by have h := unhide B_pa _ e.symm; have o := unhide ORD; omega)).trans (unhide RB))
        replace R0 := hide ((hg.block b_R0 (heap_lt (unhide R0)) (fun e => by have h := unhide B_pa _ e.symm; have o := unhide ORD; omega)).trans (unhide R0))
        replace R1 := hide ((hg.block b_R1 (heap_lt (unhide R1)) (fun e => by have h := unhide B_pa _ e.symm; have o := unhide ORD; omega)).trans (unhide R1))
        replace R2 := hide ((hg.block b_R2 (heap_lt (unhide R2)) (fun e => by have h := unhide B_pa _ e.symm; have o := unhide ORD; omega)).trans (unhide R2))
        replace R3 := hide ((hg.block b_R3 (heap_lt (unhide R3)) (fun e => by have h := unhide B_pa _ e.symm; have o := unhide ORD; omega)).trans (unhide R3))
        replace p0 := hide ((unhide p0).kept hg (apart_bc (unhide B_p0) (unhide B_pa) (by have o := unhide ORD; omega)))
        replace pb := hide ((unhide pb).kept hg (apart_bc (unhide B_pb) (unhide B_pa) (by have o := unhide ORD; omega)))
        replace pg := hide ((unhide pg).kept hg (apart_bc (unhide B_pg) (unhide B_pa) (by have o := unhide ORD; omega)))
        replace HB := hide ((unhide HB).grown hg (unhide HB).size (fun k hk => by have h := unhide B_pa _ hk; have o := unhide ORD; omega))
        replace CUR := hide (Nat.le_trans (unhide CUR) hg.size)
        replace pa := hide hm
        clear hm hg
        obtain ⟨q_R2_0, q_R2_1, q_R2_2⟩ := row3 (unhide R2)
        go_wp2_with fail
        clear q_R2_0 q_R2_1 q_R2_2
        go_fit (unhide MXB _ _ _ (unhide pb))
        rintro r w11 ⟨rfl, hm, hg⟩
        replace RA := hide ((hg.block b_RA (heap_lt (unhide RA)) (fun e => by have h := unhide B_pb _ e.symm; have o := unhide ORD; omega)).trans (unhide RA))
        replace RB := hide ((hg.block b_RB (heap_lt (unhide RB)) (fun e => by have h := unhide B_pb _ e.symm; have o := unhide ORD; omega)).trans (unhide RB))
        replace R0 := hide ((hg.block b_R0 (heap_lt (unhide R0)) (fun e => by have h := unhide B_pb _ e.symm; have o := unhide ORD; omega)).trans (unhide R0))
        replace R1 := hide ((hg.block b_R1 (heap_lt (unhide R1)) (fun e => by have h := unhide B_pb _ e.symm; have o := unhide ORD; omega)).trans (unhide R1))
        replace R2 := hide ((hg.block b_R2 (heap_lt (unhide R2)) (fun e => by have h := unhide B_pb _ e.symm; have o := unhide ORD; omega)).trans (unhide R2))
        replace R3 := hide ((hg.block b_R3 (heap_lt (unhide R3)) (fun e => by have h := unhide B_pb _ e.symm; have o := unhide ORD; omega)).trans (unhide R3))
        replace p0 := hide ((unhide p0).kept hg (apart_bc (unhide B_p0) (unhide B_pb) (by have o := unhide ORD; omega)))
        replace pg := hide ((unhide pg).kept hg (apart_bc (unhide B_pg) (unhide B_pb) (by have o := unhide ORD; omega)))
        replace pa := hide ((unhide pa).kept hg (apart_bc (unhide B_pa) (unhide B_pb) (by have o := unhide ORD; omega)))
        replace HB := hide ((unhide HB).grown hg (unhide HB).size (fun k hk => by have h := unhide B_pb _ hk; have o := unhide ORD; omega))
        replace CUR := hide (Nat.le_trans (unhide CUR) hg.size)
        replace pb := hide hm
        clear hm hg
        clear pa
        clear pb
        obtain ⟨q_R3_0, q_R3_1, q_R3_2⟩ := row3 (unhide R3)
        obtain ⟨q_R0_0, q_R0_1, q_R0_2⟩ := row3 (unhide R0)
        go_wp2_with fail
        clear q_R3_0 q_R3_1 q_R3_2 q_R0_0 q_R0_1 q_R0_2
        go_fit (unhide EXM _ _ _ _ _ _ _ (unhide pg) (unhide p0))
        rintro r w12 ⟨rfl, hb⟩
        replace RA := hide (row_next hb (unhide RA))
        replace RB := hide (row_next hb (unhide RB))
        replace R0 := hide (row_next hb (unhide R0))
        replace R1 := hide (row_next hb (unhide R1))
        replace R2 := hide (row_next hb (unhide R2))
        replace R3 := hide (row_next hb (unhide R3))
        replace p0 := hide ((unhide p0).next hb)
        replace pg := hide ((unhide pg).next hb)
        replace CUR := hide (Nat.le_trans (unhide CUR) (Below.size hb))
        replace HB := hide (below_two (unhide HB) hb)
        clear hb
        obtain ⟨q_R3_0, q_R3_1, q_R3_2⟩ := row3 (unhide R3)
        go_wp2_with fail
        clear q_R3_0 q_R3_1 q_R3_2
        go_fit (unhide MXM _ _ _ _ (unhide pg))
        rintro r w13 ⟨rfl, hm, hg⟩
        replace RA := hide ((hg.block b_RA (heap_lt (unhide RA)) (fun e => by have h := unhide B_pg _ e.symm; have o := unhide ORD; omega)).trans (unhide RA))
        replace RB := hide ((hg.block b_RB (heap_lt (unhide RB)) (fun e => by have h := unhide B_pg _ e.symm; have o := unhide ORD; omega)).trans (unhide RB))
        replace R0 := hide ((hg.block b_R0 (heap_lt (unhide R0)) (fun e => by have h := unhide B_pg _ e.symm; have o := unhide ORD; omega)).trans (unhide R0))
        replace R1 := hide ((hg.block b_R1 (heap_lt (unhide R1)) (fun e => by have h := unhide B_pg _ e.symm; have o := unhide ORD; omega)).trans (unhide R1))
        replace R2 := hide ((hg.block b_R2 (heap_lt (unhide R2)) (fun e => by have h := unhide B_pg _ e.symm; have o := unhide ORD; omega)).trans (unhide R2))
        replace R3 := hide ((hg.block b_R3 (heap_lt (unhide R3)) (fun e => by have h := unhide B_pg _ e.symm; have o := unhide ORD; omega)).trans (unhide R3))
        replace p0 := hide ((unhide p0).kept hg (apart_bc (unhide B_p0) (unhide B_pg) (by have o := unhide ORD; omega)))
        replace HB := hide ((unhide HB).grown hg (unhide HB).size (fun k hk => by have h := unhide B_pg _ hk; have o := unhide ORD; omega))
        replace CUR := hide (Nat.le_trans (unhide CUR) hg.size)
        replace pg := hide hm
        clear hm hg
        obtain ⟨q_R3_0, q_R3_1, q_R3_2⟩ := row3 (unhide R3)
        go_wp2_with fail
        clear q_R3_0 q_R3_1 q_R3_2
        go_fit (unhide HXM _ _ _ _ (unhide pg))
        rintro r w14 ⟨rfl, hb⟩
        replace RA := hide (row_next hb (unhide RA))
        replace RB := hide (row_next hb (unhide RB))
        replace R0 := hide (row_next hb (unhide R0))
        replace R1 := hide (row_next hb (unhide R1))
        replace R2 := hide (row_next hb (unhide R2))
        replace R3 := hide (row_next hb (unhide R3))
        replace p0 := hide ((unhide p0).next hb)
        replace pg := hide ((unhide pg).next hb)
        replace CUR := hide (Nat.le_trans (unhide CUR) (Below.size hb))
        replace HB := hide (below_two (unhide HB) hb)
        clear hb
        go_wp2_with fail
        have k0 := hide (show ∀ u, Below w14.heap.size w14 u → (u.cell? ⟨b_RA, 0, none⟩ = some (.int .i64 x) ∧ u.cell? ⟨b_RA, 1, none⟩ = some (.int .i64 y) ∧ u.cell? ⟨b_RA, 2, none⟩ = some (.slice ao n ca) ∧ u.cell? ⟨b_RB, 0, none⟩ = some (.int .i64 x') ∧ u.cell? ⟨b_RB, 1, none⟩ = some (.int .i64 y') ∧ u.cell? ⟨b_RB, 2, none⟩ = some (.slice bo m cb) ∧ Below w14.heap.size w14 u) from fun u h => ⟨(row3 (row_next h (unhide RA))).1, (row3 (row_next h (unhide RA))).2.1, (row3 (row_next h (unhide RA))).2.2, (row3 (row_next h (unhide RB))).1, (row3 (row_next h (unhide RB))).2.1, (row3 (row_next h (unhide RB))).2.2, h⟩)
        have kS := hide (show ∀ u, (u.cell? ⟨b_RA, 0, none⟩ = some (.int .i64 x) ∧ u.cell? ⟨b_RA, 1, none⟩ = some (.int .i64 y) ∧ u.cell? ⟨b_RA, 2, none⟩ = some (.slice ao n ca) ∧ u.cell? ⟨b_RB, 0, none⟩ = some (.int .i64 x') ∧ u.cell? ⟨b_RB, 1, none⟩ = some (.int .i64 y') ∧ u.cell? ⟨b_RB, 2, none⟩ = some (.slice bo m cb) ∧ Below w14.heap.size w14 u) → Below w14.heap.size w14 u from fun u h => h.2.2.2.2.2.2)
        have k00 := hide (unhide k0 _ (Below.refl _ _).drew)
        have hd : w14.drew.heap.size = w14.heap.size := rfl
        go_cut [17] (fun s u => ∃ q a c, s = .pointer (some ⟨q, 0, none⟩) ∧ u.heap[q]? = some (.cells #[.int .i64 x, .int .i64 y, .slice a n c] 62 (0, 0)) ∧ ColsV u w14.heap.size (.slice a n c) n mf ∧ some q ≠ (Value.slice a n c).ownBlock ∧ w14.heap.size ≤ q ∧ Below w14.heap.size w14 u)
        case first =>
          go_region_held3 (fun u => u.cell? ⟨b_RA, 0, none⟩ = some (.int .i64 x) ∧ u.cell? ⟨b_RA, 1, none⟩ = some (.int .i64 y) ∧ u.cell? ⟨b_RA, 2, none⟩ = some (.slice ao n ca) ∧ u.cell? ⟨b_RB, 0, none⟩ = some (.int .i64 x') ∧ u.cell? ⟨b_RB, 1, none⟩ = some (.int .i64 y') ∧ u.cell? ⟨b_RB, 2, none⟩ = some (.slice bo m cb) ∧ Below w14.heap.size w14 u) ((first | with_reducible exact unhide k00 | (refine unhide k0 _ ?_; first | with_reducible assumption | (with_reducible refine below_new _ ?_ (Nat.le_refl _); with_reducible assumption) | (with_reducible refine Below.drew ?_; with_reducible exact below_new _ (Below.refl _ _) (Nat.le_refl _)) | (with_reducible refine below_put3 ?_ ?_ _ _ _ <;> first | with_reducible assumption | omega)))) (first | (go_at_call 26; go_fit (unhide TSA _ (below_two (unhide HB) (unhide kS _ (by with_reducible assumption)))); rintro r y1 ⟨s1, rfl, hpv, hb1⟩; have hW1 := below_after hb1 (unhide kS _ (by with_reducible assumption)) (Nat.le_refl _); have hsz := hb1.size; have hge := hW1.size; (first | (have zz := carry3 (.int .i64 0) (.int .i64 0) (.slice none 0 0) 62 hb1 (by with_reducible assumption); obtain ⟨z0, z1, z2, v0, v1, v2, hz, hzl⟩ := zz) | (have zz := carry3 (.int .i64 0) (.int .i64 0) (.slice none 0 0) 62 hb1 (al1_0 _ _); obtain ⟨z0, z1, z2, v0, v1, v2, hz, hzl⟩ := zz; try simp only [hd] at z0 z1 z2 v0 v1 v2 hz hzl) | skip); have pvA := hide hpv; clear hpv) | (go_at_call 26; go_fit (unhide TSB _ (below_two (unhide HB) (unhide kS _ (by with_reducible assumption)))); rintro r y1 ⟨s2, rfl, hpv, hb1⟩; have hW1 := below_after hb1 (unhide kS _ (by with_reducible assumption)) (Nat.le_refl _); have hsz := hb1.size; have hge := hW1.size; (first | (have zz := carry3 (.int .i64 0) (.int .i64 0) (.slice none 0 0) 62 hb1 (by with_reducible assumption); obtain ⟨z0, z1, z2, v0, v1, v2, hz, hzl⟩ := zz) | (have zz := carry3 (.int .i64 0) (.int .i64 0) (.slice none 0 0) 62 hb1 (al1_0 _ _); obtain ⟨z0, z1, z2, v0, v1, v2, hz, hzl⟩ := zz; try simp only [hd] at z0 z1 z2 v0 v1 v2 hz hzl) | skip); (first | (replace pvA := hide ((unhide pvA).next hb1)) | (replace pvA := hide (((unhide pvA).next (al1_below _ _)).next hb1)) | skip); have pvB := hide hpv; clear hpv) | (go_at_call 27; (first | go_fit (unhide I _ _ _ _ _ (unhide pvA) (unhide pvB)) | go_fit (unhide I _ _ _ _ _ ((unhide pvA).next (al1_below _ _)) ((unhide pvB).next (al1_below _ _)))); intro r y1 hres; obtain ⟨a1, c1, rfl, hp1, hb1⟩ := hres; have pr := hide (hp1.low (Below.size (unhide kS _ (by with_reducible assumption)))); (first | (have nq := hide (hp1.notOld (heap_lt (by with_reducible assumption))); skip) | (have nq := hide (hp1.notOld (new_ltc _ _)); try simp only [hd] at nq) | skip); have hW1 := below_after hb1 (unhide kS _ (by with_reducible assumption)) (Nat.le_refl _); have hsz := hb1.size; have hge := hW1.size; (first | (have zz := carry3 (.int .i64 0) (.int .i64 0) (.slice none 0 0) 62 hb1 (by with_reducible assumption); obtain ⟨z0, z1, z2, v0, v1, v2, hz, hzl⟩ := zz) | (have zz := carry3 (.int .i64 0) (.int .i64 0) (.slice none 0 0) 62 hb1 (al1_0 _ _); obtain ⟨z0, z1, z2, v0, v1, v2, hz, hzl⟩ := zz; try simp only [hd] at z0 z1 z2 v0 v1 v2 hz hzl) | skip); skip; clear hp1))
          all_goals
            go_wp2_with fail
            go_meet
            first
            | (refine ⟨_, a1, c1, rfl, ?_, ?_, unhide nq, ?_, ?_⟩; exact put3_row hz; exact (unhide pr).put3 (unhide nq); (first | with_reducible exact Nat.le_refl _ | omega); exact unhide kS _ (by with_reducible assumption))
            | exact ⟨_, a1, c1, rfl, new_row _ _, (unhide pr).next (al1_below _ _), (unhide pr).notNew (Nat.le_refl _), hW1.size, unhide kS _ (by with_reducible assumption)⟩
        case rest =>
          obtain ⟨b_R4, a_p4, c_p4, rfl, hr, hp, hnot, hge, hb⟩ := hcut
          have hql := heap_lt hr
          have lo0 := CUR
          replace RA := hide (row_next hb (unhide RA))
          replace RB := hide (row_next hb (unhide RB))
          replace R0 := hide (row_next hb (unhide R0))
          replace R1 := hide (row_next hb (unhide R1))
          replace R2 := hide (row_next hb (unhide R2))
          replace R3 := hide (row_next hb (unhide R3))
          replace p0 := hide ((unhide p0).next hb)
          replace pg := hide ((unhide pg).next hb)
          replace CUR := hide (Nat.le_trans (unhide CUR) (Below.size hb))
          replace HB := hide (below_two (unhide HB) hb)
          clear hb
          obtain ⟨hi_p4, hhi⟩ : ∃ h, h = wc.heap.size := ⟨_, rfl⟩
          replace CUR := hide (show hi_p4 ≤ wc.heap.size by rw [hhi]; exact Nat.le_refl _)
          have B_p4 := hide (show ∀ k, (Value.ownBlock (.slice a_p4 n c_p4)) = some k → w14.heap.size ≤ k ∧ k < hi_p4 from fun k hk => by rw [hhi]; exact hp.lt k hk)
          rw [← hhi] at hql
          clear hhi
          have p4 := hide hp
          have R4 := hide hr
          have nq_R4_p4 := hide hnot
          clear hp hr hnot
          replace hge := hide hge
          replace hql := hide hql
          clear k0 kS k00 hd
          generalize wc = X90 at *
          generalize w14.heap.size = lo_p4 at p4 B_p4 lo0 hge
          replace ORD := hide (And.intro (unhide ORD) (And.intro (unhide lo0) (And.intro (unhide hge) (unhide hql))))
          clear lo0 hge hql
          obtain ⟨q_R4_0, q_R4_1, q_R4_2⟩ := row3 (unhide R4)
          obtain ⟨q_R0_0, q_R0_1, q_R0_2⟩ := row3 (unhide R0)
          go_wp2_with fail
          clear q_R4_0 q_R4_1 q_R4_2 q_R0_0 q_R0_1 q_R0_2
          go_fit (unhide EXM _ _ _ _ _ _ _ (unhide p4) (unhide p0))
          rintro r w15 ⟨rfl, hb⟩
          replace RA := hide (row_next hb (unhide RA))
          replace RB := hide (row_next hb (unhide RB))
          replace R0 := hide (row_next hb (unhide R0))
          replace R1 := hide (row_next hb (unhide R1))
          replace R2 := hide (row_next hb (unhide R2))
          replace R3 := hide (row_next hb (unhide R3))
          replace R4 := hide (row_next hb (unhide R4))
          replace p0 := hide ((unhide p0).next hb)
          replace p4 := hide ((unhide p4).next hb)
          replace pg := hide ((unhide pg).next hb)
          replace CUR := hide (Nat.le_trans (unhide CUR) (Below.size hb))
          replace HB := hide (below_two (unhide HB) hb)
          clear hb
          obtain ⟨q_R3_0, q_R3_1, q_R3_2⟩ := row3 (unhide R3)
          go_wp2_with fail
          clear q_R3_0 q_R3_1 q_R3_2
          go_fit (unhide HXM _ _ _ _ (unhide pg))
          rintro r w16 ⟨rfl, hb⟩
          replace RA := hide (row_next hb (unhide RA))
          replace RB := hide (row_next hb (unhide RB))
          replace R0 := hide (row_next hb (unhide R0))
          replace R1 := hide (row_next hb (unhide R1))
          replace R2 := hide (row_next hb (unhide R2))
          replace R3 := hide (row_next hb (unhide R3))
          replace R4 := hide (row_next hb (unhide R4))
          replace p0 := hide ((unhide p0).next hb)
          replace p4 := hide ((unhide p4).next hb)
          replace pg := hide ((unhide pg).next hb)
          replace CUR := hide (Nat.le_trans (unhide CUR) (Below.size hb))
          replace HB := hide (below_two (unhide HB) hb)
          clear hb
          go_wp2_with fail
          go_ret
          exact ⟨rfl, unhide HB⟩
end Go.Proofs.Ythelfgippiimiab

/-
  The program's paints: right colours, laid ones, right paints.
-/
namespace Go.Proofs.Ythelfgippiimiab
open Go.RowKit
set_option linter.unusedVariables false

theorem implPartOk_any (x : Int) (w : World) :
    Calls Try.prog 42 #[.int .i64 x] w fun e w' => e = .returned (.bool (inB x 0 255)) ∧ w' = w := by
  by_cases h1 : 0 ≤ x
  · by_cases h2 : x ≤ 255
    · have H : Hid (true = inB x 0 255) := (inB_true.2 ⟨h1, h2⟩).symm
      go_enter Try.func42, Try.ntmps42
      go_wp2_with fail
      go_ret
      exact ⟨ret_bool (unhide H), rfl⟩
    · have H : Hid (false = inB x 0 255) := by unfold Hid inB; simp [h1, h2]
      go_enter Try.func42, Try.ntmps42
      go_wp2_with fail
      go_ret
      exact ⟨ret_bool (unhide H), rfl⟩
  · have H : Hid (false = inB x 0 255) := by unfold Hid inB; simp [h1]
    go_enter Try.func42, Try.ntmps42
    go_wp2_with fail
    go_ret
    exact ⟨ret_bool (unhide H), rfl⟩

set_option maxHeartbeats 4000000 in
set_option maxRecDepth 100000 in
theorem implColorOk_any (r g b a : Int) (w : World) :
    Calls Try.prog 58 #[.agg #[.int .i64 r, .int .i64 g, .int .i64 b, .int .i64 a]] w fun e w' => e = .returned (.bool (colorOkB ⟨r, g, b, a⟩)) ∧ Below w.heap.size w w' := by
  have E0 := hide (implPartOk_any r)
  have E1 := hide (implPartOk_any g)
  have E2 := hide (implPartOk_any b)
  have E3 := hide (implPartOk_any a)
  have H : Hid ((inB r 0 255 && (inB g 0 255 && (inB b 0 255 && inB a 0 255))) = colorOkB ⟨r, g, b, a⟩) := rfl
  generalize inB r 0 255 = i0 at E0 H
  generalize inB g 0 255 = i1 at E1 H
  generalize inB b 0 255 = i2 at E2 H
  generalize inB a 0 255 = i3 at E3 H
  generalize colorOkB ⟨r, g, b, a⟩ = X at H ⊢
  go_enter Try.func58, Try.ntmps58
  go_upto_region 1 with fail
  have R := hide (new_row w (.cells #[.int .i64 r, .int .i64 g, .int .i64 b, .int .i64 a] 37))
  have HB := hide (al1_below w (.cells #[.int .i64 r, .int .i64 g, .int .i64 b, .int .i64 a] 37))
  generalize w.alloc (.cells #[.int .i64 r, .int .i64 g, .int .i64 b, .int .i64 a] 37) = W at R HB ⊢
  obtain ⟨r0, r1, r2, r3⟩ := row4 (unhide R)
  go_wp2_with fail
  go_fit (unhide E0 _)
  rintro e u2 ⟨rfl, rfl⟩
  cases i0 with
  | false =>
    go_wp2_with fail
    go_ret
    exact ⟨ret_bool (unhide H), unhide HB⟩
  | true =>
  go_wp2_with fail
  go_fit (unhide E1 _)
  rintro e u2 ⟨rfl, rfl⟩
  cases i1 with
  | false =>
    go_wp2_with fail
    go_ret
    exact ⟨ret_bool (unhide H), unhide HB⟩
  | true =>
  go_wp2_with fail
  go_fit (unhide E2 _)
  rintro e u2 ⟨rfl, rfl⟩
  cases i2 with
  | false =>
    go_wp2_with fail
    go_ret
    exact ⟨ret_bool (unhide H), unhide HB⟩
  | true =>
  go_wp2_with fail
  go_fit (unhide E3 _)
  rintro e u2 ⟨rfl, rfl⟩
  go_wp2_with fail
  go_ret
  exact ⟨ret_bool (unhide H), unhide HB⟩

end Go.Proofs.Ythelfgippiimiab

/-
  The program's laid colours, thinned and faded ones: closures over closures. (By blendi.py.)
-/
namespace Go.Proofs.Ythelfgippiimiab
open Go.RowKit
set_option linter.unusedVariables false

set_option maxHeartbeats 4000000 in
set_option maxRecDepth 100000 in
theorem implLaidOk_any (r g b a : Int) (w : World) :
    Calls Try.prog 23 #[.agg #[.int .i64 r, .int .i64 g, .int .i64 b, .int .i64 a]] w fun e w' => e = .returned (.bool (laidOkB ⟨r, g, b, a⟩)) ∧ Below w.heap.size w w' := by
  have E := hide (implColorOk_any r g b a)
  have H : Hid ((colorOkB ⟨r, g, b, a⟩ && (decide (r ≤ a) && (decide (g ≤ a) && decide (b ≤ a)))) = laidOkB ⟨r, g, b, a⟩) := rfl
  generalize colorOkB ⟨r, g, b, a⟩ = X at E H
  generalize laidOkB ⟨r, g, b, a⟩ = Y at H ⊢
  go_enter Try.func23, Try.ntmps23
  go_upto_region 1 with fail
  have R := hide (new_row w (.cells #[.int .i64 r, .int .i64 g, .int .i64 b, .int .i64 a] 37))
  have HB := hide (al1_below w (.cells #[.int .i64 r, .int .i64 g, .int .i64 b, .int .i64 a] 37))
  generalize w.alloc (.cells #[.int .i64 r, .int .i64 g, .int .i64 b, .int .i64 a] 37) = W at R HB ⊢
  generalize w.heap.size = b1 at R ⊢
  obtain ⟨q0, q1, q2, q3⟩ := row4 (unhide R)
  go_wp2_with fail
  go_fit (unhide E _)
  rintro e u2 ⟨rfl, hb⟩
  replace R := hide (row_next hb (unhide R))
  replace HB := hide (below_two (unhide HB) hb)
  clear hb q0 q1 q2 q3
  obtain ⟨q0, q1, q2, q3⟩ := row4 (unhide R)
  cases X with
  | false =>
    go_wp2_with fail
    go_ret
    exact ⟨ret_bool (unhide H), unhide HB⟩
  | true =>
  cases d0 : decide (r ≤ a) with
  | false =>
    rw [d0] at H
    go_wp2_with fail
    go_ret
    exact ⟨ret_bool (unhide H), unhide HB⟩
  | true =>
  rw [d0] at H
  cases d1 : decide (g ≤ a) with
  | false =>
    rw [d1] at H
    go_wp2_with fail
    go_ret
    exact ⟨ret_bool (unhide H), unhide HB⟩
  | true =>
  rw [d1] at H
  cases d2 : decide (b ≤ a) with
  | false =>
    rw [d2] at H
    go_wp2_with fail
    go_ret
    exact ⟨ret_bool (unhide H), unhide HB⟩
  | true =>
    rw [d2] at H
    go_wp2_with fail
    go_ret
    exact ⟨ret_bool (unhide H), unhide HB⟩

theorem cell_lone {w1 : World} {b : Nat} {x : Value} {t : TypeId} (h : w1.heap[b]? = some (.cells #[x] t (0, 0))) : w1.cell? ⟨b, 0, none⟩ = some x := by simp [World.cell?, h]

set_option maxHeartbeats 8000000 in
set_option maxRecDepth 100000 in
theorem implEachPart_less (p : Nat) (r g b a m0 m1 m2 m3 : Int) (J : World → Prop) (jn : ∀ u u', J u → Below u.heap.size u u' → J u')
    (K0 : ∀ u, J u → Calls Try.prog 106 #[.int .i64 r, .int .i64 r, .pointer (some ⟨p, 0, none⟩)] u fun e u' => e = .returned (.int .i64 m0) ∧ Below u.heap.size u u')
    (K1 : ∀ u, J u → Calls Try.prog 106 #[.int .i64 g, .int .i64 g, .pointer (some ⟨p, 0, none⟩)] u fun e u' => e = .returned (.int .i64 m1) ∧ Below u.heap.size u u')
    (K2 : ∀ u, J u → Calls Try.prog 106 #[.int .i64 b, .int .i64 b, .pointer (some ⟨p, 0, none⟩)] u fun e u' => e = .returned (.int .i64 m2) ∧ Below u.heap.size u u')
    (K3 : ∀ u, J u → Calls Try.prog 106 #[.int .i64 a, .int .i64 a, .pointer (some ⟨p, 0, none⟩)] u fun e u' => e = .returned (.int .i64 m3) ∧ Below u.heap.size u u')
    (w : World) (h : J w) :
    Calls Try.prog 54 #[.agg #[.int .i64 r, .int .i64 g, .int .i64 b, .int .i64 a], .agg #[.int .i64 r, .int .i64 g, .int .i64 b, .int .i64 a], .func (.func 106) #[] #[.pointer (some ⟨p, 0, none⟩)]] w fun e w' => e = .returned (.agg #[.int .i64 m0, .int .i64 m1, .int .i64 m2, .int .i64 m3]) ∧ Below w.heap.size w w' := by
  replace K0 := hide K0
  replace K1 := hide K1
  replace K2 := hide K2
  replace K3 := hide K3
  go_enter Try.func54, Try.ntmps54
  go_upto_region 1 with fail
  have R1 := hide (al3_0 w (.cells #[.int .i64 r, .int .i64 g, .int .i64 b, .int .i64 a] 37) (.cells #[.int .i64 r, .int .i64 g, .int .i64 b, .int .i64 a] 37) (.cells #[.int .i64 0, .int .i64 0, .int .i64 0, .int .i64 0] 37))
  have R2 := hide (al3_1 w (.cells #[.int .i64 r, .int .i64 g, .int .i64 b, .int .i64 a] 37) (.cells #[.int .i64 r, .int .i64 g, .int .i64 b, .int .i64 a] 37) (.cells #[.int .i64 0, .int .i64 0, .int .i64 0, .int .i64 0] 37))
  have R3 := hide (al3_2 w (.cells #[.int .i64 r, .int .i64 g, .int .i64 b, .int .i64 a] 37) (.cells #[.int .i64 r, .int .i64 g, .int .i64 b, .int .i64 a] 37) (.cells #[.int .i64 0, .int .i64 0, .int .i64 0, .int .i64 0] 37))
  have HB := hide (al3_below w (.cells #[.int .i64 r, .int .i64 g, .int .i64 b, .int .i64 a] 37) (.cells #[.int .i64 r, .int .i64 g, .int .i64 b, .int .i64 a] 37) (.cells #[.int .i64 0, .int .i64 0, .int .i64 0, .int .i64 0] 37))
  have cq := jn _ _ h (unhide HB)
  obtain ⟨b3, hb3⟩ : ∃ b, Hid (b = w.heap.size + 1 + 1) := ⟨_, rfl⟩
  obtain ⟨b2, hb2⟩ : ∃ b, Hid (b = w.heap.size + 1) := ⟨_, rfl⟩
  obtain ⟨b1, hb1⟩ : ∃ b, Hid (b = w.heap.size) := ⟨_, rfl⟩
  have lz : Hid (w.heap.size ≤ b3 ∧ b1 < b3 ∧ b2 < b3) := by unfold Hid; rw [unhide hb3, unhide hb2, unhide hb1]; omega
  rw [← unhide hb3] at R3
  rw [← unhide hb2] at R2
  rw [← unhide hb1] at R1
  rw [← unhide hb3, ← unhide hb2, ← unhide hb1]
  generalize ((w.alloc (.cells #[.int .i64 r, .int .i64 g, .int .i64 b, .int .i64 a] 37)).alloc (.cells #[.int .i64 r, .int .i64 g, .int .i64 b, .int .i64 a] 37)).alloc (.cells #[.int .i64 0, .int .i64 0, .int .i64 0, .int .i64 0] 37) = W at R1 R2 R3 HB cq ⊢
  clear hb3 hb2 hb1 h
  have ne1 : ¬ b3 = b1 := by have := unhide lz; omega
  have ne2 : ¬ b1 = b3 := by have := unhide lz; omega
  have ne3 : ¬ b3 = b2 := by have := unhide lz; omega
  have ne4 : ¬ b2 = b3 := by have := unhide lz; omega
  have l6 := hide (show b3 ≤ W.heap.size from Nat.le_of_lt (heap_lt (unhide R3)))
  have cq0 := hide (jn _ _ cq (Below.refl W.heap.size W).drew)
  replace cq := hide cq
  have k0 := hide (show ∀ u, Below b3 W u → (u.cell? ⟨b1, 0, none⟩ = some (.int .i64 r) ∧ u.cell? ⟨b1, 1, none⟩ = some (.int .i64 g) ∧ u.cell? ⟨b1, 2, none⟩ = some (.int .i64 b) ∧ u.cell? ⟨b1, 3, none⟩ = some (.int .i64 a) ∧ u.cell? ⟨b2, 0, none⟩ = some (.int .i64 r) ∧ u.cell? ⟨b2, 1, none⟩ = some (.int .i64 g) ∧ u.cell? ⟨b2, 2, none⟩ = some (.int .i64 b) ∧ u.cell? ⟨b2, 3, none⟩ = some (.int .i64 a) ∧ Below b3 W u) from fun u h => by
    obtain ⟨c0, c1, c2, c3⟩ := row4 ((h.block b1 (unhide lz).2.1).trans (unhide R1))
    obtain ⟨d0, d1, d2, d3⟩ := row4 ((h.block b2 (unhide lz).2.2).trans (unhide R2))
    exact ⟨c0, c1, c2, c3, d0, d1, d2, d3, h⟩)
  have k1 := hide (show ∀ u, Below W.heap.size W u → (u.cell? ⟨b3, 0, none⟩ = some (.int .i64 0) ∧ u.cell? ⟨b3, 1, none⟩ = some (.int .i64 0) ∧ u.cell? ⟨b3, 2, none⟩ = some (.int .i64 0) ∧ u.cell? ⟨b3, 3, none⟩ = some (.int .i64 0) ∧ u.frozen? ⟨b3, 0, none⟩ = false ∧ u.frozen? ⟨b3, 1, none⟩ = false ∧ u.frozen? ⟨b3, 2, none⟩ = false ∧ u.frozen? ⟨b3, 3, none⟩ = false) from fun u h => by
    obtain ⟨e0, e1, e2, e3⟩ := row4 (row_next h (unhide R3))
    obtain ⟨f0, f1, f2, f3⟩ := free4 (row_next h (unhide R3))
    exact ⟨e0, e1, e2, e3, f0, f1, f2, f3⟩)
  have k00 := hide (unhide k0 _ (Below.refl _ _).drew)
  replace jn := hide jn
  go_region_held3 (fun u => u.cell? ⟨b1, 0, none⟩ = some (.int .i64 r) ∧ u.cell? ⟨b1, 1, none⟩ = some (.int .i64 g) ∧ u.cell? ⟨b1, 2, none⟩ = some (.int .i64 b) ∧ u.cell? ⟨b1, 3, none⟩ = some (.int .i64 a) ∧ u.cell? ⟨b2, 0, none⟩ = some (.int .i64 r) ∧ u.cell? ⟨b2, 1, none⟩ = some (.int .i64 g) ∧ u.cell? ⟨b2, 2, none⟩ = some (.int .i64 b) ∧ u.cell? ⟨b2, 3, none⟩ = some (.int .i64 a) ∧ Below b3 W u) ((first | with_reducible exact unhide k00 | (with_reducible refine unhide k0 _ ?_; first | with_reducible exact Below.mono (by assumption) (unhide l6) | (with_reducible refine below_put4 ?_ (Nat.le_refl _) _ _ _ _; with_reducible exact Below.mono (by assumption) (unhide l6))))) (first | (go_at_call 106; go_fit (unhide K0 _ (unhide cq0)); rintro e w4 ⟨rfl, hb1⟩; have h1 := below_undrew hb1; have cq1 := hide (unhide jn _ _ (unhide cq) h1); clear hb1) | (go_at_call 106; go_fit (unhide K1 _ (unhide cq1)); rintro e w5 ⟨rfl, hb2⟩; have h2 := below_two h1 hb2; clear h1 cq1; have cq2 := hide (unhide jn _ _ (unhide cq) h2); clear hb2) | (go_at_call 106; go_fit (unhide K2 _ (unhide cq2)); rintro e w6 ⟨rfl, hb3⟩; have h3 := below_two h2 hb3; clear h2 cq2; have cq3 := hide (unhide jn _ _ (unhide cq) h3); clear hb3) | (go_at_call 106; go_fit (unhide K3 _ (unhide cq3)); rintro e w7 ⟨rfl, hb4⟩; have h4 := below_two h3 hb4; clear h3 cq3; clear hb4; obtain ⟨e0, e1, e2, e3, f0, f1, f2, f3⟩ := unhide k1 _ h4))
  all_goals
    go_wp2_with fail
    refine bodyPost_ret (v := .agg #[.int .i64 m0, .int .i64 m1, .int .i64 m2, .int .i64 m3]) (by simp [results, Try.results54, go_sem, e0, e1, e2, e3]) rfl ⟨rfl, ?_⟩
    exact below_put4 (below_two (unhide HB) h4) (unhide lz).1 _ _ _ _

theorem implFade1_any (q : Nat) (x n : Int) (hx : 0 ≤ x ∧ x ≤ 255) (hn : 0 ≤ n ∧ n ≤ 255) (w : World) (h : w.cell? ⟨q, 0, none⟩ = some (.int .i64 n)) :
    Calls Try.prog 93 #[.int .i64 x, .pointer (some ⟨q, 0, none⟩)] w fun e w' => e = .returned (.int .i64 (t255I x n)) ∧ Below w.heap.size w w' := by
  have E := hide (implTimes255_any x n)
  generalize t255I x n = V at E ⊢
  clear hx hn
  go_enter Try.func93, Try.ntmps93
  go_wp2_with fail
  go_fit (unhide E _)
  rintro e w1 ⟨rfl, hb⟩
  go_wp2_with fail
  go_ret
  exact ⟨rfl, hb⟩

theorem implLess1_fade (p q : Nat) (x y n : Int) (hx : 0 ≤ x ∧ x ≤ 255) (hn : 0 ≤ n ∧ n ≤ 255) (w : World) (hp : w.cell? ⟨p, 0, none⟩ = some (.func (.func 93) #[] #[.pointer (some ⟨q, 0, none⟩)])) (h : w.cell? ⟨q, 0, none⟩ = some (.int .i64 n)) :
    Calls Try.prog 106 #[.int .i64 x, .int .i64 y, .pointer (some ⟨p, 0, none⟩)] w fun e w' => e = .returned (.int .i64 (t255I x n)) ∧ Below w.heap.size w w' := by
  have E := hide (fun u h => implFade1_any q x n hx hn u h)
  generalize t255I x n = V at E ⊢
  clear hx hn
  go_enter Try.func106, Try.ntmps106
  go_wp2_with fail
  go_fit (unhide E _ h)
  rintro e w1 ⟨rfl, hb⟩
  go_wp2_with fail
  go_ret
  exact ⟨rfl, hb⟩

set_option maxHeartbeats 4000000 in
set_option maxRecDepth 100000 in
theorem implLessened_fade (q : Nat) (r g b a n : Int) (h0 : 0 ≤ r ∧ r ≤ 255) (h1 : 0 ≤ g ∧ g ≤ 255) (h2 : 0 ≤ b ∧ b ≤ 255) (h3 : 0 ≤ a ∧ a ≤ 255) (hn : 0 ≤ n ∧ n ≤ 255) (w : World) (h : w.cell? ⟨q, 0, none⟩ = some (.int .i64 n)) :
    Calls Try.prog 92 #[.agg #[.int .i64 r, .int .i64 g, .int .i64 b, .int .i64 a], .func (.func 93) #[] #[.pointer (some ⟨q, 0, none⟩)]] w fun e w' => e = .returned (.agg #[.int .i64 (t255I r n), .int .i64 (t255I g n), .int .i64 (t255I b n), .int .i64 (t255I a n)]) ∧ Below w.heap.size w w' := by
  have EE := hide (fun p => implEachPart_less p r g b a (t255I r n) (t255I g n) (t255I b n) (t255I a n) (fun u => u.cell? ⟨p, 0, none⟩ = some (.func (.func 93) #[] #[.pointer (some ⟨q, 0, none⟩)]) ∧ u.cell? ⟨q, 0, none⟩ = some (.int .i64 n)) (fun u u' j hb => ⟨kc hb j.1, kc hb j.2⟩)
    (fun u j => implLess1_fade p q r r n h0 hn u j.1 j.2) (fun u j => implLess1_fade p q g g n h1 hn u j.1 j.2) (fun u j => implLess1_fade p q b b n h2 hn u j.1 j.2) (fun u j => implLess1_fade p q a a n h3 hn u j.1 j.2))
  generalize t255I r n = m0 at EE ⊢
  generalize t255I g n = m1 at EE ⊢
  generalize t255I b n = m2 at EE ⊢
  generalize t255I a n = m3 at EE ⊢
  clear h0 h1 h2 h3 hn
  go_enter Try.func92, Try.ntmps92
  go_upto_region 1 with fail
  have R1 := hide (al3_0 w (.cells #[.int .i64 r, .int .i64 g, .int .i64 b, .int .i64 a] 37) (.cells #[.func (.func 93) #[] #[.pointer (some ⟨q, 0, none⟩)]] 75) (.cells #[.int .i64 0, .int .i64 0, .int .i64 0, .int .i64 0] 37))
  have R2 := hide (al3_1 w (.cells #[.int .i64 r, .int .i64 g, .int .i64 b, .int .i64 a] 37) (.cells #[.func (.func 93) #[] #[.pointer (some ⟨q, 0, none⟩)]] 75) (.cells #[.int .i64 0, .int .i64 0, .int .i64 0, .int .i64 0] 37))
  have R3 := hide (al3_2 w (.cells #[.int .i64 r, .int .i64 g, .int .i64 b, .int .i64 a] 37) (.cells #[.func (.func 93) #[] #[.pointer (some ⟨q, 0, none⟩)]] 75) (.cells #[.int .i64 0, .int .i64 0, .int .i64 0, .int .i64 0] 37))
  have HB := hide (al3_below w (.cells #[.int .i64 r, .int .i64 g, .int .i64 b, .int .i64 a] 37) (.cells #[.func (.func 93) #[] #[.pointer (some ⟨q, 0, none⟩)]] 75) (.cells #[.int .i64 0, .int .i64 0, .int .i64 0, .int .i64 0] 37))
  have cq := hide (kc (unhide HB) h)
  obtain ⟨b3, hb3⟩ : ∃ b, Hid (b = w.heap.size + 1 + 1) := ⟨_, rfl⟩
  obtain ⟨b2, hb2⟩ : ∃ b, Hid (b = w.heap.size + 1) := ⟨_, rfl⟩
  obtain ⟨b1, hb1⟩ : ∃ b, Hid (b = w.heap.size) := ⟨_, rfl⟩
  have lz : Hid (w.heap.size ≤ b3 ∧ b1 < b3 ∧ b2 < b3) := by unfold Hid; rw [unhide hb3, unhide hb2, unhide hb1]; omega
  rw [← unhide hb3] at R3
  rw [← unhide hb2] at R2
  rw [← unhide hb1] at R1
  rw [← unhide hb3, ← unhide hb2, ← unhide hb1]
  generalize ((w.alloc (.cells #[.int .i64 r, .int .i64 g, .int .i64 b, .int .i64 a] 37)).alloc (.cells #[.func (.func 93) #[] #[.pointer (some ⟨q, 0, none⟩)]] 75)).alloc (.cells #[.int .i64 0, .int .i64 0, .int .i64 0, .int .i64 0] 37) = W at R1 R2 R3 HB cq ⊢
  clear hb3 hb2 hb1 h
  obtain ⟨c0, c1, c2, c3⟩ := row4 (unhide R1)
  go_wp2_with fail
  go_fit (unhide EE _ _ ⟨cell_lone (unhide R2), unhide cq⟩)
  rintro e w1 ⟨rfl, hb⟩
  replace R3 := hide (row_next hb (unhide R3))
  replace HB := hide (below_two (unhide HB) hb)
  clear hb c0 c1 c2 c3
  obtain ⟨e0, e1, e2, e3⟩ := row4 (unhide R3)
  obtain ⟨f0, f1, f2, f3⟩ := free4 (unhide R3)
  go_wp2_with fail
  refine bodyPost_ret (v := .agg #[.int .i64 m0, .int .i64 m1, .int .i64 m2, .int .i64 m3]) (by simp [results, Try.results92, go_sem, e0, e1, e2, e3]) rfl ⟨rfl, ?_⟩
  exact below_put4 (unhide HB) (unhide lz).1 _ _ _ _

set_option maxHeartbeats 8000000 in
set_option maxRecDepth 100000 in
theorem implFade_any (r g b a n : Int) (w : World) :
    Calls Try.prog 68 #[.agg #[.int .i64 r, .int .i64 g, .int .i64 b, .int .i64 a], .int .i64 n] w fun e w' => e = .returned (.agg #[.int .i64 ((fadeC ⟨r, g, b, a⟩ n).x0), .int .i64 ((fadeC ⟨r, g, b, a⟩ n).y0), .int .i64 ((fadeC ⟨r, g, b, a⟩ n).x1), .int .i64 ((fadeC ⟨r, g, b, a⟩ n).y1)]) ∧ Below w.heap.size w w' := by
  have E := hide (implLaidOk_any r g b a)
  have hH : Hid (fadeC ⟨r, g, b, a⟩ n = if laidOkB ⟨r, g, b, a⟩ = true ∧ inB n 0 255 = true then ⟨t255I r n, t255I g n, t255I b n, t255I a n⟩ else ⟨0, 0, 0, 0⟩) := rfl
  have hok : Hid (laidOkB ⟨r, g, b, a⟩ = true → ((0 ≤ r ∧ r ≤ 255) ∧ (0 ≤ g ∧ g ≤ 255) ∧ (0 ≤ b ∧ b ≤ 255) ∧ (0 ≤ a ∧ a ≤ 255))) := fun h => by
    have h1 := laidOk_iff.1 h
    dsimp only at h1
    omega
  generalize laidOkB ⟨r, g, b, a⟩ = X at E hH hok
  generalize fadeC ⟨r, g, b, a⟩ n = C at hH ⊢
  go_enter Try.func68, Try.ntmps68
  go_upto_region 1 with fail
  have R1 := hide (al3_0 w (.cells #[.int .i64 r, .int .i64 g, .int .i64 b, .int .i64 a] 37) (.cells #[.int .i64 n] 3) (.cells #[.int .i64 0, .int .i64 0, .int .i64 0, .int .i64 0] 37))
  have R2 := hide (al3_1 w (.cells #[.int .i64 r, .int .i64 g, .int .i64 b, .int .i64 a] 37) (.cells #[.int .i64 n] 3) (.cells #[.int .i64 0, .int .i64 0, .int .i64 0, .int .i64 0] 37))
  have R3 := hide (al3_2 w (.cells #[.int .i64 r, .int .i64 g, .int .i64 b, .int .i64 a] 37) (.cells #[.int .i64 n] 3) (.cells #[.int .i64 0, .int .i64 0, .int .i64 0, .int .i64 0] 37))
  have HB := hide (al3_below w (.cells #[.int .i64 r, .int .i64 g, .int .i64 b, .int .i64 a] 37) (.cells #[.int .i64 n] 3) (.cells #[.int .i64 0, .int .i64 0, .int .i64 0, .int .i64 0] 37))
  obtain ⟨b3, hb3⟩ : ∃ b, Hid (b = w.heap.size + 1 + 1) := ⟨_, rfl⟩
  obtain ⟨b2, hb2⟩ : ∃ b, Hid (b = w.heap.size + 1) := ⟨_, rfl⟩
  obtain ⟨b1, hb1⟩ : ∃ b, Hid (b = w.heap.size) := ⟨_, rfl⟩
  have lz : Hid (w.heap.size ≤ b3 ∧ b1 < b3 ∧ b2 < b3) := by unfold Hid; rw [unhide hb3, unhide hb2, unhide hb1]; omega
  rw [← unhide hb3] at R3
  rw [← unhide hb2] at R2
  rw [← unhide hb1] at R1
  rw [← unhide hb3, ← unhide hb2, ← unhide hb1]
  generalize ((w.alloc (.cells #[.int .i64 r, .int .i64 g, .int .i64 b, .int .i64 a] 37)).alloc (.cells #[.int .i64 n] 3)).alloc (.cells #[.int .i64 0, .int .i64 0, .int .i64 0, .int .i64 0] 37) = W at R1 R2 R3 HB ⊢
  clear hb3 hb2 hb1
  obtain ⟨q0, q1, q2, q3⟩ := row4 (unhide R1)
  go_wp2_with fail
  go_fit (unhide E _)
  rintro e w1 ⟨rfl, hb⟩
  replace R1 := hide (row_next hb (unhide R1))
  replace R2 := hide (row_next hb (unhide R2))
  replace R3 := hide (row_next hb (unhide R3))
  replace HB := hide (below_two (unhide HB) hb)
  clear hb q0 q1 q2 q3
  obtain ⟨q0, q1, q2, q3⟩ := row4 (unhide R1)
  have n0 := cell_lone (unhide R2)
  obtain ⟨e0, e1, e2, e3⟩ := row4 (unhide R3)
  obtain ⟨f0, f1, f2, f3⟩ := free4 (unhide R3)
  cases X with
  | false =>
    have hC := hide (show C = ⟨0, 0, 0, 0⟩ by rw [unhide hH]; exact if_neg (fun e => absurd e.1 (by decide)))
    go_wp2_with fail
    refine bodyPost_ret (v := .agg #[.int .i64 0, .int .i64 0, .int .i64 0, .int .i64 0]) (by simp [results, Try.results68, go_sem, e0, e1, e2, e3]) rfl ⟨by rw [unhide hC], ?_⟩
    exact below_put4 (unhide HB) (unhide lz).1 _ _ _ _
  | true =>
  have EN := hide (implPartOk_any n)
  have hn1 : Hid (inB n 0 255 = true → (0 ≤ n ∧ n ≤ 255)) := fun h => inB_true.1 h
  generalize inB n 0 255 = Y at EN hH hn1
  go_wp2_with fail
  go_fit (unhide EN _)
  rintro e u2 ⟨rfl, rfl⟩
  cases Y with
  | false =>
    have hC := hide (show C = ⟨0, 0, 0, 0⟩ by rw [unhide hH]; exact if_neg (fun e => absurd e.2 (by decide)))
    go_wp2_with fail
    refine bodyPost_ret (v := .agg #[.int .i64 0, .int .i64 0, .int .i64 0, .int .i64 0]) (by simp [results, Try.results68, go_sem, e0, e1, e2, e3]) rfl ⟨by rw [unhide hC], ?_⟩
    exact below_put4 (unhide HB) (unhide lz).1 _ _ _ _
  | true =>
  have hin := unhide hn1 (by trivial)
  have hC := hide (show C = ⟨t255I r n, t255I g n, t255I b n, t255I a n⟩ by rw [unhide hH]; exact if_pos ⟨by trivial, by trivial⟩)
  obtain ⟨p0, p1, p2, p3⟩ := unhide hok (by trivial)
  have EL := hide (fun q u h => implLessened_fade q r g b a n p0 p1 p2 p3 hin u h)
  generalize t255I r n = m0 at EL hC
  generalize t255I g n = m1 at EL hC
  generalize t255I b n = m2 at EL hC
  generalize t255I a n = m3 at EL hC
  clear p0 p1 p2 p3 hok hH E
  go_wp2_with fail
  go_fit (unhide EL _ _ n0)
  rintro e w2 ⟨rfl, hb⟩
  replace R3 := hide (row_next hb (unhide R3))
  replace HB := hide (below_two (unhide HB) hb)
  clear hb q0 q1 q2 q3 n0 e0 e1 e2 e3 f0 f1 f2 f3
  obtain ⟨e0, e1, e2, e3⟩ := row4 (unhide R3)
  obtain ⟨f0, f1, f2, f3⟩ := free4 (unhide R3)
  go_wp2_with fail
  refine bodyPost_ret (v := .agg #[.int .i64 m0, .int .i64 m1, .int .i64 m2, .int .i64 m3]) (by simp [results, Try.results68, go_sem, e0, e1, e2, e3]) rfl ⟨by rw [unhide hC], ?_⟩
  exact below_put4 (unhide HB) (unhide lz).1 _ _ _ _

end Go.Proofs.Ythelfgippiimiab

/-
  The walks of the program's chapter 5: boxes.
-/
namespace Go.Proofs.Ythelfgippiimiab
open Go.RowKit

end Go.Proofs.Ythelfgippiimiab

/-
  The program's surfaces: sides, places, right surfaces, new ones, their squares, copies.
-/
namespace Go.Proofs.Ythelfgippiimiab
open Go.RowKit
set_option linter.unusedVariables false

theorem implSideOk_any (x : Int) (w : World) :
    Calls Try.prog 90 #[.int .i64 x] w fun e w' => e = .returned (.bool (inB x 1 12)) ∧ w' = w := by
  by_cases h1 : 1 ≤ x
  · by_cases h2 : x ≤ 12
    · have H : Hid (true = inB x 1 12) := (inB_true.2 ⟨h1, h2⟩).symm
      go_enter Try.func90, Try.ntmps90
      go_wp2_with fail
      go_ret
      exact ⟨ret_bool (unhide H), rfl⟩
    · have H : Hid (false = inB x 1 12) := by unfold Hid inB; simp [h1, h2]
      go_enter Try.func90, Try.ntmps90
      go_wp2_with fail
      go_ret
      exact ⟨ret_bool (unhide H), rfl⟩
  · have H : Hid (false = inB x 1 12) := by unfold Hid inB; simp [h1]
    go_enter Try.func90, Try.ntmps90
    go_wp2_with fail
    go_ret
    exact ⟨ret_bool (unhide H), rfl⟩

set_option maxHeartbeats 4000000 in
theorem implPixPlace_any (x y px py : Int) (v : Value) (h1 : IntKind.i64.wrap (py * x) = py * x) (h2 : IntKind.i64.wrap (py * x + px) = py * x + px) (w : World) :
    Calls Try.prog 69 #[.agg #[.int .i64 x, .int .i64 y, v], .int .i64 px, .int .i64 py] w fun r w' => r = .returned (.int .i64 (py * x + px)) ∧ Below w.heap.size w w' := by
  go_enter Try.func69, Try.ntmps69
  go_wp2_with fail
  go_ret
  exact ⟨rfl, al1_below _ _⟩

theorem notNilCols (w : World) (a : Addr) (n c : Nat) : (binOp .eql 60 (.slice (some a) n c) (.slice none 0 0)).run Try.prog w = .ok (.bool false) w := by kernel_rfl
theorem nilCols (w : World) : (binOp .eql 60 (.slice none 0 0) (.slice none 0 0)).run Try.prog w = .ok (.bool true) w := by kernel_rfl

attribute [local go_sem ↓] notNilCols nilCols in
set_option maxHeartbeats 4000000 in
theorem cloneCols_any (f : Nat → B4) (ao : Option Addr) (n c : Nat) (hn : n ≤ 1048576) (hc : n ≤ c) (hao : ao = none → c = 0) (w : World) (P : ∀ i, i < n → ClAt w ao i (f i)) :
    Calls Try.prog 91 #[.slice ao n c] w fun r w' => ∃ av cv, r = .returned (.slice av n cv) ∧ ColsV w' w.heap.size (.slice av n cv) n f ∧ Below w.heap.size w w' := by
  cases ao with
  | none =>
    obtain rfl := hao rfl
    obtain rfl : n = 0 := by omega
    go_enter Try.func91, Try.ntmps91
    go_wp2_with fail
    go_ret
    exact ⟨_, _, rfl, cols_none _ _ _, Below.refl _ _⟩
  | some ad =>
    obtain ⟨i1, hi1, hz1, hs1, hb1⟩ := info_parts infoColor
    have oE := hide (show (w.alloc (.cells #[] 37)).ownsRow w.heap.size 37 4 (.slice (some ⟨w.heap.size, 0, none⟩) 0 0) 0 [] from World.ownsRow_lit w #[] 0 (Nat.le_refl _) (by decide) rfl)
    have VE := hide (show ∀ j u, (colsL f n)[j]? = some u → (w.alloc (.cells #[] 37)).cell? (ad.add j) = some u from by
      rcases Nat.eq_zero_or_pos n with h0 | h0
      · subst h0; intro j u hu; simp [colsL, csV] at hu
      · obtain ⟨s0, o0, e, _⟩ := P 0 h0
        cases e
        exact colsL_cells (fun i hi => (P i hi).next (al1_below w (.cells #[] 37))))
    clear P
    go_enter Try.func91, Try.ntmps91
    go_wp2_with (at_builtin; go_must (refine wpList_append_own (w.alloc (.cells #[] 37)) rfl _ _ 60 rfl w.heap.size 37 i1 (.agg #[.int .i64 0, .int .i64 0, .int .i64 0, .int .i64 0]) 4 32 Try.underlying60 hi1 hz1 hs1 hb1 rfl (by decide) _ 0 [] (by rfl) (unhide oE) ad n c (colsL f n) (by rfl) (colsL_len f n) (unhide VE) (colsL_one f n) (by unfold maxLen; omega) (by omega) (by simp) ?_); intro v1 w3 ho hg _; rw [Nat.zero_add, List.nil_append] at ho; obtain ⟨av, cv, rfl⟩ := own_form ho; have O1 := hide ho; have G3 := hide hg; clear ho hg)
    replace G3 := hide (below_of_grown (B := w.heap.size) (unhide G3) (by simp) (fun k hk => by simp [Value.ownBlock] at hk; omega))
    replace G3 := hide ((al1_below w (.cells #[] 37)).trans (unhide G3))
    go_ret
    exact ⟨av, cv, rfl, ⟨_, unhide O1, colsL_at f n⟩, unhide G3⟩

set_option maxHeartbeats 8000000 in
set_option maxRecDepth 100000 in
theorem implSurfaceCopy_any (x y : Int) (f : Nat → B4) (ao : Option Addr) (n cp : Nat) (hn : n ≤ 1048576) (hc : n ≤ cp) (hao : ao = none → cp = 0) (w : World) (P : ∀ i, i < n → ClAt w ao i (f i)) :
    Calls Try.prog 65 #[.agg #[.int .i64 x, .int .i64 y, .slice ao n cp]] w fun r w' => SurfRes w r w' x y n f := by
  have EC := hide (fun u (hu : Below w.heap.size w u) => cloneCols_any f ao n cp hn hc hao u (fun i hi => (P i hi).next hu))
  clear P
  unfold SurfRes
  go_enter Try.func65, Try.ntmps65
  go_upto_region 1 with fail
  have R := hide (al2_0 w (.cells #[.int .i64 x, .int .i64 y, .slice ao n cp] 62) (.cells #[.int .i64 0, .int .i64 0, .slice none 0 0] 62))
  have R2 := hide (al2_1 w (.cells #[.int .i64 x, .int .i64 y, .slice ao n cp] 62) (.cells #[.int .i64 0, .int .i64 0, .slice none 0 0] 62))
  have HB := hide (al2_below w (.cells #[.int .i64 x, .int .i64 y, .slice ao n cp] 62) (.cells #[.int .i64 0, .int .i64 0, .slice none 0 0] 62))
  obtain ⟨b2, hb2⟩ : ∃ b, Hid (b = w.heap.size + 1) := ⟨_, rfl⟩
  obtain ⟨b1, hb1⟩ : ∃ b, Hid (b = w.heap.size) := ⟨_, rfl⟩
  have lz : Hid (w.heap.size ≤ b2 ∧ b1 < b2) := by unfold Hid; rw [unhide hb2, unhide hb1]; omega
  rw [← unhide hb2] at R2
  rw [← unhide hb1] at R
  rw [← unhide hb2, ← unhide hb1]
  generalize (w.alloc (.cells #[.int .i64 x, .int .i64 y, .slice ao n cp] 62)).alloc (.cells #[.int .i64 0, .int .i64 0, .slice none 0 0] 62) = W at R R2 HB ⊢
  clear hb2 hb1
  have l6 := hide (show b2 < W.heap.size from heap_lt (unhide R2))
  have ne1 : ¬ b2 = b1 := by have := unhide lz; omega
  have ne2 : ¬ b1 = b2 := by have := unhide lz; omega
  have k0 := hide (show ∀ u, Below b2 W u → (u.cell? ⟨b1, 0, none⟩ = some (.int .i64 x) ∧ u.cell? ⟨b1, 1, none⟩ = some (.int .i64 y) ∧ u.cell? ⟨b1, 2, none⟩ = some (.slice ao n cp) ∧ Below b2 W u) from fun u h => by
    obtain ⟨c0, c1, c2⟩ := row3 ((h.block b1 (unhide lz).2).trans (unhide R))
    exact ⟨c0, c1, c2, h⟩)
  have k00 := hide (unhide k0 _ (Below.refl _ _).drew)
  have EC0 := hide (unhide EC _ (unhide HB).drew)
  clear EC
  go_region_held3 (fun u => u.cell? ⟨b1, 0, none⟩ = some (.int .i64 x) ∧ u.cell? ⟨b1, 1, none⟩ = some (.int .i64 y) ∧ u.cell? ⟨b1, 2, none⟩ = some (.slice ao n cp) ∧ Below b2 W u) ((first | with_reducible exact unhide k00 | (with_reducible refine unhide k0 _ ?_; first | with_reducible assumption | with_reducible exact Below.mono (by assumption) (Nat.le_of_lt (unhide l6)) | (with_reducible refine below_put3 ?_ (Nat.le_refl _) _ _ _; with_reducible exact Below.mono (by assumption) (Nat.le_of_lt (unhide l6)))))) (first | (go_at_call 91; go_fit (unhide EC0); rintro r w6 ⟨p6, c6, rfl, hc6, hb6'⟩; have hb6 := below_undrew hb6'; clear hb6'; obtain ⟨e0, e1, e2⟩ := row3 (row_next hb6 (unhide R2)); obtain ⟨f0, f1, f2⟩ := frozen3 (row_next hb6 (unhide R2)); replace hc6 := hide hc6))
  all_goals
    go_wp2_with fail
    refine bodyPost_ret (v := .agg #[.int .i64 x, .int .i64 y, .slice p6 n c6]) (by simp [results, Try.results65, go_sem, e0, e1, e2]) rfl ⟨p6, c6, rfl, ?_, ?_⟩
    · obtain ⟨xs6, o6, x6⟩ := unhide hc6
      exact ⟨xs6, own_low (own_put3 o6 (fun k hk => by have h1 : W.heap.size ≤ k := (o6.lt k hk).1; have := unhide l6; omega) _ _ _) (unhide HB).size, x6⟩
    · exact below_put3 (below_two (unhide HB) hb6) (unhide lz).1 _ _ _

end Go.Proofs.Ythelfgippiimiab

/-
  The specification's SameSurface.
-/
namespace Go.Proofs.Ythelfgippiimiab
open Go.RowKit
set_option linter.unusedVariables false

theorem b4_eq {a b c d e f g h : Int} : (⟨a, b, c, d⟩ : B4) = ⟨e, f, g, h⟩ ↔ (decide (a = e) && (decide (b = f) && (decide (c = g) && decide (d = h)))) = true := by
  simp only [B4.mk.injEq, Bool.and_eq_true, decide_eq_true_eq]

end Go.Proofs.Ythelfgippiimiab

/-
  The program's right surfaces, their squares, two surfaces held against each other.
-/
namespace Go.Proofs.Ythelfgippiimiab
open Go.RowKit
set_option linter.unusedVariables false

set_option maxHeartbeats 4000000 in
set_option maxRecDepth 100000 in
theorem implSurfaceOk_any (x y : Int) (f : Nat → B4) (ao : Option Addr) (n cp : Nat) (hn : n ≤ 1048576) (hc : n ≤ cp) (hao : ao = none → cp = 0) (w : World) (P : ∀ i, i < n → ClAt w ao i (f i)) :
    Calls Try.prog 64 #[.agg #[.int .i64 x, .int .i64 y, .slice ao n cp]] w fun r w' => r = .returned (.bool (surfOkB x y n f)) ∧ Below w.heap.size w w' := by
  have EX := hide (implSideOk_any x)
  have EY := hide (implSideOk_any y)
  replace P := hide P
  have hyes : Hid (SOk x y n f → surfOkB x y n f = true) := fun h => surfOk_iff.2 h
  have hno : Hid (¬ SOk x y n f → surfOkB x y n f = false) := fun h => surfOk_no h
  generalize surfOkB x y n f = X at hyes hno ⊢
  have hS : Hid (SOk x y n f ↔ (inB x 1 12 = true) ∧ (inB y 1 12 = true) ∧ (n : Int) = x * y ∧ ∀ i, i < n → laidOkB (f i) = true) := by unfold Hid SOk; rw [inB_true, inB_true]
  have hpr : Hid (inB x 1 12 = true → inB y 1 12 = true → IntKind.i64.wrap (x * y) = x * y) := fun h1 h2 => IntWalk.i64_in _ (by have := side_prod (inB_true.1 h1) (inB_true.1 h2); omega)
  generalize SOk x y n f = M at hyes hno hS
  generalize inB x 1 12 = ix at EX hS hpr
  generalize inB y 1 12 = iy at EY hS hpr
  go_enter Try.func64, Try.ntmps64
  go_upto_region 1 with fail
  have R := hide (new_row w (.cells #[.int .i64 x, .int .i64 y, .slice ao n cp] 62))
  have HB := hide (al1_below w (.cells #[.int .i64 x, .int .i64 y, .slice ao n cp] 62))
  obtain ⟨b1, hb1⟩ : ∃ b, Hid (b = w.heap.size) := ⟨_, rfl⟩
  rw [← unhide hb1] at R
  rw [← unhide hb1]
  generalize w.alloc (.cells #[.int .i64 x, .int .i64 y, .slice ao n cp] 62) = W at R HB ⊢
  obtain ⟨r0, r1, r2⟩ := row3 (unhide R)
  go_wp2_with fail
  go_fit (unhide EX _)
  rintro r u1 ⟨rfl, rfl⟩
  cases ix with
  | false =>
    have hX := hide (unhide hno (fun h => by have := (unhide hS).1 h; cases this.1))
    go_wp2_with fail
    go_ret
    exact ⟨ret_bool (unhide hX).symm, unhide HB⟩
  | true =>
  go_wp2_with fail
  go_fit (unhide EY _)
  rintro r u1 ⟨rfl, rfl⟩
  cases iy with
  | false =>
    have hX := hide (unhide hno (fun h => by have := (unhide hS).1 h; cases this.2.1))
    go_wp2_with fail
    go_ret
    exact ⟨ret_bool (unhide hX).symm, unhide HB⟩
  | true =>
    have w3 := unhide hpr (by trivial) (by trivial)
    by_cases hq : (n : Int) = x * y
    · have hq1 := hide hq
      have w4 : IntKind.i64.wrap (x * y) = (n : Int) := by rw [w3, hq]
      clear w3 hq
      go_upto_region 4 with fail
      go_wp2_with fail
      clear r0 r1 r2 w4
      go_loopw [29] (fun i u => ∃ k : Nat, k ≤ n ∧ i = .int .i64 k ∧ Hid (∀ j, j < k → laidOkB (f j) = true) ∧ Hid (Below w.heap.size w u)) (fun i _ => n - (intOf i).toNat)
      case atStart => exact ⟨0, Nat.zero_le _, rfl, fun j hj => absurd hj (by omega), HB⟩
      case round =>
        clear HB R
        obtain ⟨k, hk, rfl, HK, HB⟩ := hrel
        by_cases hlt : k < n
        · have HP := (unhide P k hlt).next (unhide HB)
          obtain ⟨z, hz⟩ : ∃ z, Hid (f k = z) := ⟨_, rfl⟩
          rw [unhide hz] at HP
          obtain ⟨z0, z1, z2, z3⟩ := z
          obtain ⟨s0, o0, rfl, g0, g1, g2, g3⟩ := HP
          dsimp only at g0 g1 g2 g3
          have EI := hide (implLaidOk_any z0 z1 z2 z3)
          have hki : (k : Int) < (n : Int) := by omega
          cases hi : laidOkB ⟨z0, z1, z2, z3⟩ with
          | false =>
            rw [hi] at EI
            have hX := hide (unhide hno (fun h => by have := ((unhide hS).1 h).2.2.2 k hlt; rw [unhide hz, hi] at this; cases this))
            clear hi
            go_wp2_with fail
            go_fit (unhide EI _)
            rintro r u2 ⟨rfl, hb⟩
            replace HB := hide (below_two (unhide HB) (below_two (al1_below _ _) hb))
            go_wp2_with fail
            go_ret
            exact ⟨ret_bool (unhide hX).symm, unhide HB⟩
          | true =>
            rw [hi] at EI
            have HK2 : Hid (∀ j, j < k + 1 → laidOkB (f j) = true) := cols_more (unhide HK) (by rw [unhide hz]; exact hi)
            clear hi
            go_wp2_with fail
            go_fit (unhide EI _)
            rintro r u2 ⟨rfl, hb⟩
            replace HB := hide (below_two (unhide HB) (below_two (al1_below _ _) hb))
            clear hb g0 g1 g2 g3
            go_wp2_with fail
            go_roundw
            case rel => exact ⟨k + 1, by omega, by go_num, HK2, HB⟩
            case measure => simp [intOf]; omega
        · have hke : k = n := by omega
          subst hke
          have hki : ¬ (k : Int) < (k : Int) := by omega
          have hX := hide (unhide hyes ((unhide hS).2 ⟨by trivial, by trivial, unhide hq1, unhide HK⟩))
          go_wp2_with fail
          go_ret
          exact ⟨ret_bool (unhide hX).symm, unhide HB⟩
    · have hX := hide (unhide hno (fun h => hq ((unhide hS).1 h).2.2.1))
      have hqb : ((n : Int) == x * y) = false := beq_eq_false_iff_ne.2 hq
      go_wp2_with fail
      go_ret
      exact ⟨ret_bool (unhide hX).symm, unhide HB⟩

end Go.Proofs.Ythelfgippiimiab

/-
  The program's modeOk.
-/
namespace Go.Proofs.Ythelfgippiimiab
open Go.RowKit
set_option linter.unusedVariables false

theorem implModeOk_any (x : Int) (w : World) :
    Calls Try.prog 41 #[.int .i64 x] w fun e w' => e = .returned (.bool (inB x 1 5)) ∧ w' = w := by
  by_cases h1 : 1 ≤ x
  · by_cases h2 : x ≤ 5
    · have H : Hid (true = inB x 1 5) := (inB_true.2 ⟨h1, h2⟩).symm
      go_enter Try.func41, Try.ntmps41
      go_wp2_with fail
      go_ret
      exact ⟨ret_bool (unhide H), rfl⟩
    · have H : Hid (false = inB x 1 5) := by unfold Hid inB; simp [h1, h2]
      go_enter Try.func41, Try.ntmps41
      go_wp2_with fail
      go_ret
      exact ⟨ret_bool (unhide H), rfl⟩
  · have H : Hid (false = inB x 1 5) := by unfold Hid inB; simp [h1]
    go_enter Try.func41, Try.ntmps41
    go_wp2_with fail
    go_ret
    exact ⟨ret_bool (unhide H), rfl⟩
end Go.Proofs.Ythelfgippiimiab
