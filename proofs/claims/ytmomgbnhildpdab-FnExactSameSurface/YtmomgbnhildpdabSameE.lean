/-
  The exact law of SameSurface, from what the program's function answers. (By newlaw.py.)
-/
import Derived.Test.YtmomgbnhildpdabSurfV
import Derived.Test.YtmomgbnhildpdabSurfE
import Derived.Deep.RegionHeld3
import Derived.Deep.DeepCutAuto
import Derived.Deep.DeepFit
namespace Go.Proofs.Ytmomgbnhildpdab
open Go.RowKit
set_option linter.unusedVariables false

set_option maxHeartbeats 16000000 in
set_option maxRecDepth 100000 in
theorem fnExactSameSurface_of (EI : ∀ (x y : Int) (F : Nat → B4) (ao : Option Addr) (n ca : Nat) (hn : n ≤ 1048576) (hca : n ≤ ca) (hao : ao = none → ca = 0) (x' y' : Int) (G : Nat → B4) (bo : Option Addr) (m cb : Nat) (hm : m ≤ 1048576) (hcb : m ≤ cb) (hbo : bo = none → cb = 0) (w : World) (PA : ∀ i, i < n → ClAt w ao i (F i)) (PB : ∀ i, i < m → ClAt w bo i (G i)), Calls Try.prog 17 #[.agg #[.int .i64 x, .int .i64 y, .slice ao n ca], .agg #[.int .i64 x', .int .i64 y', .slice bo m cb]] w fun r w' => r = .returned (.bool (sameSB x y n F x' y' m G)) ∧ Below w.heap.size w w')
    (x y : Int) (ao : Option Addr) (n ca : Nat) (F : Nat → B4) (x' y' : Int) (bo : Option Addr) (m cb : Nat) (G : Nat → B4) (w : World) (hA : n ≤ maxLen ∧ ∀ i, i < n → ClAt w ao i (F i)) (hB : m ≤ maxLen ∧ ∀ i, i < m → ClAt w bo i (G i)) :
    Calls Try.prog 4 #[.agg #[.int .i64 x, .int .i64 y, .slice ao n ca], .agg #[.int .i64 x', .int .i64 y', .slice bo m cb]] w fun r w' => r = .returned (.bool true) ∧ Below w.heap.size w w' := by
  obtain ⟨hmA, PA⟩ := hA
  obtain ⟨hmB, PB⟩ := hB
  have Z := hide (szSurface_any x y ao n ca 1048576 (by omega) hmA)
  by_cases hbig : (1048576 : Int) < (n : Int)
  · rw [if_pos hbig] at Z
    go_enter Try.func4, Try.ntmps4
    go_wp2_with fail
    go_fit (unhide Z _)
    rintro r w1 ⟨rfl, hb⟩
    go_wp2_with fail
    go_ret
    exact ⟨rfl, below_two (al2_below _ _ _) hb⟩
  rw [if_neg hbig] at Z
  have hpos : ¬ ((1048576 : Int) - (n : Int) < 0) := by omega
  have hn : n ≤ 1048576 := by omega
  have Z2 := hide (szSurface_any x' y' bo m cb (1048576 - (n : Int)) (by omega) hmB)
  by_cases hbig2 : (1048576 : Int) - (n : Int) < (m : Int)
  · rw [if_pos hbig2] at Z2
    go_enter Try.func4, Try.ntmps4
    go_wp2_with fail
    go_fit (unhide Z _)
    rintro r w1 ⟨rfl, hb⟩
    obtain ⟨q0, q1, q2⟩ := row3 (row_next hb (al2_1 w (.cells #[.int .i64 x, .int .i64 y, .slice ao n ca] 24) (.cells #[.int .i64 x', .int .i64 y', .slice bo m cb] 24)))
    go_wp2_with fail
    go_fit (unhide Z2 _)
    rintro r w2 ⟨rfl, hb2⟩
    go_wp2_with fail
    go_ret
    exact ⟨rfl, below_two (below_two (al2_below _ _ _) hb) hb2⟩
  rw [if_neg hbig2] at Z2
  have hpos2 : ¬ ((1048576 : Int) - (n : Int) - (m : Int) < 0) := by omega
  have hm : m ≤ 1048576 := by omega
  have TSA := hide (fun u (hu : Below w.heap.size w u) => toSurface_any x y F ao n ca hn u (fun i hi => (PA i hi).next hu))
  have TSB := hide (fun u (hu : Below w.heap.size w u) => toSurface_any x' y' G bo m cb hm u (fun i hi => (PB i hi).next hu))
  have S := hide (fun (u : World) (s t base base' : Nat) (h1 : ColsV u base (.slice (some ⟨s, 0, none⟩) n n) n F) (h2 : ColsV u base' (.slice (some ⟨t, 0, none⟩) m m) m G) => specSameSurface_any x y F (some ⟨s, 0, none⟩) n n hn x' y' G (some ⟨t, 0, none⟩) m m hm u h1.cols h2.cols)
  have I := hide (fun (u : World) (s t base base' : Nat) (h1 : ColsV u base (.slice (some ⟨s, 0, none⟩) n n) n F) (h2 : ColsV u base' (.slice (some ⟨t, 0, none⟩) m m) m G) => EI x y F (some ⟨s, 0, none⟩) n n hn (Nat.le_refl _) (fun h => by cases h) x' y' G (some ⟨t, 0, none⟩) m m hm (Nat.le_refl _) (fun h => by cases h) u h1.cols h2.cols)
  have EXA := hide (fun (u : World) (s t base base' : Nat) (h1 : ColsV u base (.slice (some ⟨s, 0, none⟩) n n) n F) (h2 : ColsV u base' (.slice (some ⟨t, 0, none⟩) n n) n F) => eqSurface_same x y F (some ⟨s, 0, none⟩) (some ⟨t, 0, none⟩) n n n hn u h1.cols h2.cols)
  have EXB := hide (fun (u : World) (s t base base' : Nat) (h1 : ColsV u base (.slice (some ⟨s, 0, none⟩) m m) m G) (h2 : ColsV u base' (.slice (some ⟨t, 0, none⟩) m m) m G) => eqSurface_same x' y' G (some ⟨s, 0, none⟩) (some ⟨t, 0, none⟩) m m m hm u h1.cols h2.cols)
  generalize sameSB x y n F x' y' m G = X at S I
  clear PA PB hmA hmB hbig hbig2 hn hm EI
  go_enter Try.func4, Try.ntmps4
  go_upto_region 1 with fail
  have RA := hide (al2_0 w (.cells #[.int .i64 x, .int .i64 y, .slice ao n ca] 24) (.cells #[.int .i64 x', .int .i64 y', .slice bo m cb] 24))
  have RB := hide (al2_1 w (.cells #[.int .i64 x, .int .i64 y, .slice ao n ca] 24) (.cells #[.int .i64 x', .int .i64 y', .slice bo m cb] 24))
  have HB := hide (al2_below w (.cells #[.int .i64 x, .int .i64 y, .slice ao n ca] 24) (.cells #[.int .i64 x', .int .i64 y', .slice bo m cb] 24))
  have CUR := hide (show w.heap.size + 2 ≤ ((w.alloc (.cells #[.int .i64 x, .int .i64 y, .slice ao n ca] 24)).alloc (.cells #[.int .i64 x', .int .i64 y', .slice bo m cb] 24)).heap.size by rw [al2_size]; exact Nat.le_refl _)
  obtain ⟨c0, hc0⟩ : ∃ b, b = w.heap.size + 2 := ⟨_, rfl⟩
  obtain ⟨b_RB, hbB⟩ : ∃ b, b = w.heap.size + 1 := ⟨_, rfl⟩
  obtain ⟨b_RA, hbA⟩ : ∃ b, b = w.heap.size := ⟨_, rfl⟩
  have ORD := hide (show w.heap.size ≤ b_RA ∧ b_RA < b_RB ∧ b_RB < c0 by omega)
  rw [← hc0] at CUR
  rw [← hbB] at RB
  rw [← hbA] at RA
  rw [← hbB, ← hbA]
  clear hc0 hbB hbA
  generalize (w.alloc (.cells #[.int .i64 x, .int .i64 y, .slice ao n ca] 24)).alloc (.cells #[.int .i64 x', .int .i64 y', .slice bo m cb] 24) = W0 at *
  obtain ⟨q_RA_0, q_RA_1, q_RA_2⟩ := row3 (unhide RA)
  go_wp2_with fail
  clear q_RA_0 q_RA_1 q_RA_2
  go_fit (unhide Z _)
  rintro r w1 ⟨rfl, hb⟩
  replace RA := hide (row_next hb (unhide RA))
  replace RB := hide (row_next hb (unhide RB))
  replace CUR := hide (Nat.le_trans (unhide CUR) (Below.size hb))
  replace HB := hide (below_two (unhide HB) hb)
  clear hb
  obtain ⟨q_RB_0, q_RB_1, q_RB_2⟩ := row3 (unhide RB)
  go_wp2_with fail
  clear q_RB_0 q_RB_1 q_RB_2
  go_fit (unhide Z2 _)
  rintro r w2 ⟨rfl, hb⟩
  replace RA := hide (row_next hb (unhide RA))
  replace RB := hide (row_next hb (unhide RB))
  replace CUR := hide (Nat.le_trans (unhide CUR) (Below.size hb))
  replace HB := hide (below_two (unhide HB) hb)
  clear hb
  clear Z Z2
  go_wp2_with fail
  have k0 := hide (show ∀ u, Below w2.heap.size w2 u → (u.cell? ⟨b_RA, 0, none⟩ = some (.int .i64 x) ∧ u.cell? ⟨b_RA, 1, none⟩ = some (.int .i64 y) ∧ u.cell? ⟨b_RA, 2, none⟩ = some (.slice ao n ca) ∧ u.cell? ⟨b_RB, 0, none⟩ = some (.int .i64 x') ∧ u.cell? ⟨b_RB, 1, none⟩ = some (.int .i64 y') ∧ u.cell? ⟨b_RB, 2, none⟩ = some (.slice bo m cb) ∧ Below w2.heap.size w2 u) from fun u h => ⟨(row3 (row_next h (unhide RA))).1, (row3 (row_next h (unhide RA))).2.1, (row3 (row_next h (unhide RA))).2.2, (row3 (row_next h (unhide RB))).1, (row3 (row_next h (unhide RB))).2.1, (row3 (row_next h (unhide RB))).2.2, h⟩)
  have kS := hide (show ∀ u, (u.cell? ⟨b_RA, 0, none⟩ = some (.int .i64 x) ∧ u.cell? ⟨b_RA, 1, none⟩ = some (.int .i64 y) ∧ u.cell? ⟨b_RA, 2, none⟩ = some (.slice ao n ca) ∧ u.cell? ⟨b_RB, 0, none⟩ = some (.int .i64 x') ∧ u.cell? ⟨b_RB, 1, none⟩ = some (.int .i64 y') ∧ u.cell? ⟨b_RB, 2, none⟩ = some (.slice bo m cb) ∧ Below w2.heap.size w2 u) → Below w2.heap.size w2 u from fun u h => h.2.2.2.2.2.2)
  have k00 := hide (unhide k0 _ (Below.refl _ _).drew)
  have hd : w2.drew.heap.size = w2.heap.size := rfl
  go_cut [6] (fun s u => s = .bool X ∧ Below w2.heap.size w2 u)
  case first =>
    go_region_held3 (fun u => u.cell? ⟨b_RA, 0, none⟩ = some (.int .i64 x) ∧ u.cell? ⟨b_RA, 1, none⟩ = some (.int .i64 y) ∧ u.cell? ⟨b_RA, 2, none⟩ = some (.slice ao n ca) ∧ u.cell? ⟨b_RB, 0, none⟩ = some (.int .i64 x') ∧ u.cell? ⟨b_RB, 1, none⟩ = some (.int .i64 y') ∧ u.cell? ⟨b_RB, 2, none⟩ = some (.slice bo m cb) ∧ Below w2.heap.size w2 u) ((first | with_reducible exact unhide k00 | (refine unhide k0 _ ?_; first | with_reducible assumption | (with_reducible refine below_new _ ?_ (Nat.le_refl _); with_reducible assumption) | (with_reducible refine Below.drew ?_; with_reducible exact below_new _ (Below.refl _ _) (Nat.le_refl _)) | (with_reducible refine below_put3 ?_ ?_ _ _ _ <;> first | with_reducible assumption | omega)))) (first | (go_at_call 11; go_fit (unhide TSA _ (below_two (unhide HB) (unhide kS _ (by with_reducible assumption)))); rintro r y1 ⟨s1, rfl, hpv, hb1⟩; have hW1 := below_after hb1 (unhide kS _ (by with_reducible assumption)) (Nat.le_refl _); have hsz := hb1.size; have hge := hW1.size; have pvA := hide hpv; clear hpv) | (go_at_call 11; go_fit (unhide TSB _ (below_two (unhide HB) (unhide kS _ (by with_reducible assumption)))); rintro r y1 ⟨s2, rfl, hpv, hb1⟩; have hW1 := below_after hb1 (unhide kS _ (by with_reducible assumption)) (Nat.le_refl _); have hsz := hb1.size; have hge := hW1.size; replace pvA := hide ((unhide pvA).next hb1); have pvB := hide hpv; clear hpv) | (go_at_call 16; go_fit (unhide S _ _ _ _ _ (unhide pvA) (unhide pvB)); rintro r y1 ⟨rfl, hb1⟩; have hW1 := below_after hb1 (unhide kS _ (by with_reducible assumption)) (Nat.le_refl _); have hsz := hb1.size; have hge := hW1.size))
    all_goals
      go_wp2_with fail
      go_meet
      exact ⟨rfl, unhide kS _ (by with_reducible assumption)⟩
  case rest =>
    obtain ⟨rfl, hb⟩ := hcut
    replace RA := hide (row_next hb (unhide RA))
    replace RB := hide (row_next hb (unhide RB))
    replace CUR := hide (Nat.le_trans (unhide CUR) (Below.size hb))
    replace HB := hide (below_two (unhide HB) hb)
    clear hb k0 kS k00 hd
    generalize wc = X50 at *
    obtain ⟨q_RA_0, q_RA_1, q_RA_2⟩ := row3 (unhide RA)
    go_wp2_with fail
    clear q_RA_0 q_RA_1 q_RA_2
    go_fit (unhide TSA _ (unhide HB))
    rintro r w3 ⟨s_a, rfl, hp, hb⟩
    have lo0 := CUR
    have lo1 := hide (Below.size hb)
    replace RA := hide (row_next hb (unhide RA))
    replace RB := hide (row_next hb (unhide RB))
    replace CUR := hide (Nat.le_trans (unhide CUR) (Below.size hb))
    replace HB := hide (below_two (unhide HB) hb)
    clear hb
    obtain ⟨hi_pla, hhi⟩ : ∃ h, h = w3.heap.size := ⟨_, rfl⟩
    replace CUR := hide (show hi_pla ≤ w3.heap.size by rw [hhi]; exact Nat.le_refl _)
    have B_pla := hide (show ∀ k, (Value.ownBlock (.slice (some ⟨s_a, 0, none⟩) n n)) = some k → X50.heap.size ≤ k ∧ k < hi_pla from fun k hk => by rw [hhi]; exact hp.lt k hk)
    rw [← hhi] at lo1
    clear hhi
    have pla := hide hp
    clear hp
    generalize X50.heap.size = lo_pla at pla B_pla lo0 lo1
    replace ORD := hide (And.intro (unhide ORD) (And.intro (unhide lo0) (unhide lo1)))
    clear lo0 lo1
    go_upto_region 10 with fail
    have lo0 := CUR
    have R1 := hide (new_row w3 (.cells #[.int .i64 x, .int .i64 y, .slice (some ⟨s_a, 0, none⟩) n n] 28))
    have hb := al1_below w3 (.cells #[.int .i64 x, .int .i64 y, .slice (some ⟨s_a, 0, none⟩) n n] 28)
    replace RA := hide (row_next hb (unhide RA))
    replace RB := hide (row_next hb (unhide RB))
    replace pla := hide ((unhide pla).next hb)
    replace CUR := hide (Nat.le_trans (unhide CUR) (Below.size hb))
    replace HB := hide (below_two (unhide HB) hb)
    clear hb
    replace CUR := hide (show w3.heap.size + 1 ≤ (w3.alloc (.cells #[.int .i64 x, .int .i64 y, .slice (some ⟨s_a, 0, none⟩) n n] 28)).heap.size by rw [al1_size]; exact Nat.le_refl _)
    generalize w3.alloc (.cells #[.int .i64 x, .int .i64 y, .slice (some ⟨s_a, 0, none⟩) n n] 28) = W4 at *
    generalize w3.heap.size = b_R1 at R1 CUR lo0 ⊢
    replace ORD := hide (And.intro (unhide ORD) (unhide lo0))
    clear lo0
    obtain ⟨q_RB_0, q_RB_1, q_RB_2⟩ := row3 (unhide RB)
    go_wp2_with fail
    clear q_RB_0 q_RB_1 q_RB_2
    go_fit (unhide TSB _ (unhide HB))
    rintro r w5 ⟨s_b, rfl, hp, hb⟩
    have lo0 := CUR
    have lo1 := hide (Below.size hb)
    replace RA := hide (row_next hb (unhide RA))
    replace RB := hide (row_next hb (unhide RB))
    replace R1 := hide (row_next hb (unhide R1))
    replace pla := hide ((unhide pla).next hb)
    replace CUR := hide (Nat.le_trans (unhide CUR) (Below.size hb))
    replace HB := hide (below_two (unhide HB) hb)
    clear hb
    obtain ⟨hi_plb, hhi⟩ : ∃ h, h = w5.heap.size := ⟨_, rfl⟩
    replace CUR := hide (show hi_plb ≤ w5.heap.size by rw [hhi]; exact Nat.le_refl _)
    have B_plb := hide (show ∀ k, (Value.ownBlock (.slice (some ⟨s_b, 0, none⟩) m m)) = some k → W4.heap.size ≤ k ∧ k < hi_plb from fun k hk => by rw [hhi]; exact hp.lt k hk)
    rw [← hhi] at lo1
    clear hhi
    have plb := hide hp
    clear hp
    generalize W4.heap.size = lo_plb at plb B_plb lo0 lo1
    replace ORD := hide (And.intro (unhide ORD) (And.intro (unhide lo0) (unhide lo1)))
    clear lo0 lo1
    go_upto_region 11 with fail
    have lo0 := CUR
    have R2 := hide (new_row w5 (.cells #[.int .i64 x', .int .i64 y', .slice (some ⟨s_b, 0, none⟩) m m] 28))
    have hb := al1_below w5 (.cells #[.int .i64 x', .int .i64 y', .slice (some ⟨s_b, 0, none⟩) m m] 28)
    replace RA := hide (row_next hb (unhide RA))
    replace RB := hide (row_next hb (unhide RB))
    replace R1 := hide (row_next hb (unhide R1))
    replace pla := hide ((unhide pla).next hb)
    replace plb := hide ((unhide plb).next hb)
    replace CUR := hide (Nat.le_trans (unhide CUR) (Below.size hb))
    replace HB := hide (below_two (unhide HB) hb)
    clear hb
    replace CUR := hide (show w5.heap.size + 1 ≤ (w5.alloc (.cells #[.int .i64 x', .int .i64 y', .slice (some ⟨s_b, 0, none⟩) m m] 28)).heap.size by rw [al1_size]; exact Nat.le_refl _)
    generalize w5.alloc (.cells #[.int .i64 x', .int .i64 y', .slice (some ⟨s_b, 0, none⟩) m m] 28) = W6 at *
    generalize w5.heap.size = b_R2 at R2 CUR lo0 ⊢
    replace ORD := hide (And.intro (unhide ORD) (unhide lo0))
    clear lo0
    obtain ⟨q_R1_0, q_R1_1, q_R1_2⟩ := row3 (unhide R1)
    obtain ⟨q_R2_0, q_R2_1, q_R2_2⟩ := row3 (unhide R2)
    go_wp2_with fail
    clear q_R1_0 q_R1_1 q_R1_2 q_R2_0 q_R2_1 q_R2_2
    go_fit (unhide I _ _ _ _ _ (unhide pla) (unhide plb))
    rintro r w7 ⟨rfl, hb⟩
    replace RA := hide (row_next hb (unhide RA))
    replace RB := hide (row_next hb (unhide RB))
    replace R1 := hide (row_next hb (unhide R1))
    replace R2 := hide (row_next hb (unhide R2))
    replace pla := hide ((unhide pla).next hb)
    replace plb := hide ((unhide plb).next hb)
    replace CUR := hide (Nat.le_trans (unhide CUR) (Below.size hb))
    replace HB := hide (below_two (unhide HB) hb)
    clear hb
    have hXX : (X != X) = false := by simp
    go_wp2_with fail
    have k0 := hide (show ∀ u, Below w7.heap.size w7 u → (u.cell? ⟨b_R1, 0, none⟩ = some (.int .i64 x) ∧ u.cell? ⟨b_R1, 1, none⟩ = some (.int .i64 y) ∧ u.cell? ⟨b_R1, 2, none⟩ = some (.slice (some ⟨s_a, 0, none⟩) n n) ∧ u.cell? ⟨b_RA, 0, none⟩ = some (.int .i64 x) ∧ u.cell? ⟨b_RA, 1, none⟩ = some (.int .i64 y) ∧ u.cell? ⟨b_RA, 2, none⟩ = some (.slice ao n ca) ∧ Below w7.heap.size w7 u) from fun u h => ⟨(row3 (row_next h (unhide R1))).1, (row3 (row_next h (unhide R1))).2.1, (row3 (row_next h (unhide R1))).2.2, (row3 (row_next h (unhide RA))).1, (row3 (row_next h (unhide RA))).2.1, (row3 (row_next h (unhide RA))).2.2, h⟩)
    have kS := hide (show ∀ u, (u.cell? ⟨b_R1, 0, none⟩ = some (.int .i64 x) ∧ u.cell? ⟨b_R1, 1, none⟩ = some (.int .i64 y) ∧ u.cell? ⟨b_R1, 2, none⟩ = some (.slice (some ⟨s_a, 0, none⟩) n n) ∧ u.cell? ⟨b_RA, 0, none⟩ = some (.int .i64 x) ∧ u.cell? ⟨b_RA, 1, none⟩ = some (.int .i64 y) ∧ u.cell? ⟨b_RA, 2, none⟩ = some (.slice ao n ca) ∧ Below w7.heap.size w7 u) → Below w7.heap.size w7 u from fun u h => h.2.2.2.2.2.2)
    have k00 := hide (unhide k0 _ (Below.refl _ _).drew)
    have hd : w7.drew.heap.size = w7.heap.size := rfl
    go_cut [39] (fun s u => s = .bool false ∧ Below w7.heap.size w7 u)
    case first =>
      go_region_held3 (fun u => u.cell? ⟨b_R1, 0, none⟩ = some (.int .i64 x) ∧ u.cell? ⟨b_R1, 1, none⟩ = some (.int .i64 y) ∧ u.cell? ⟨b_R1, 2, none⟩ = some (.slice (some ⟨s_a, 0, none⟩) n n) ∧ u.cell? ⟨b_RA, 0, none⟩ = some (.int .i64 x) ∧ u.cell? ⟨b_RA, 1, none⟩ = some (.int .i64 y) ∧ u.cell? ⟨b_RA, 2, none⟩ = some (.slice ao n ca) ∧ Below w7.heap.size w7 u) ((first | with_reducible exact unhide k00 | (refine unhide k0 _ ?_; first | with_reducible assumption | (with_reducible refine below_new _ ?_ (Nat.le_refl _); with_reducible assumption) | (with_reducible refine Below.drew ?_; with_reducible exact below_new _ (Below.refl _ _) (Nat.le_refl _)) | (with_reducible refine below_put3 ?_ ?_ _ _ _ <;> first | with_reducible assumption | omega)))) (first | (go_at_call 11; go_fit (unhide TSA _ (below_two (unhide HB) (unhide kS _ (by with_reducible assumption)))); rintro r y1 ⟨s1, rfl, hpv, hb1⟩; have hW1 := below_after hb1 (unhide kS _ (by with_reducible assumption)) (Nat.le_refl _); have hsz := hb1.size; have hge := hW1.size; have pv := hide hpv; clear hpv) | (go_at_call 13; (first | go_fit (unhide EXA _ _ _ _ _ ((unhide pla).next (unhide kS _ (by with_reducible assumption))) (unhide pv))); rintro r y1 ⟨rfl, hb1⟩; have hW1 := below_after hb1 (unhide kS _ (by with_reducible assumption)) (Nat.le_refl _); have hsz := hb1.size; have hge := hW1.size))
      all_goals
        go_wp2_with fail
        go_meet
        exact ⟨rfl, unhide kS _ (by with_reducible assumption)⟩
    case rest =>
      obtain ⟨rfl, hb⟩ := hcut
      replace RA := hide (row_next hb (unhide RA))
      replace RB := hide (row_next hb (unhide RB))
      replace R1 := hide (row_next hb (unhide R1))
      replace R2 := hide (row_next hb (unhide R2))
      replace pla := hide ((unhide pla).next hb)
      replace plb := hide ((unhide plb).next hb)
      replace CUR := hide (Nat.le_trans (unhide CUR) (Below.size hb))
      replace HB := hide (below_two (unhide HB) hb)
      clear hb k0 kS k00 hd
      generalize wc = X60 at *
      go_wp2_with fail
      have k0 := hide (show ∀ u, Below X60.heap.size X60 u → (u.cell? ⟨b_R2, 0, none⟩ = some (.int .i64 x') ∧ u.cell? ⟨b_R2, 1, none⟩ = some (.int .i64 y') ∧ u.cell? ⟨b_R2, 2, none⟩ = some (.slice (some ⟨s_b, 0, none⟩) m m) ∧ u.cell? ⟨b_RB, 0, none⟩ = some (.int .i64 x') ∧ u.cell? ⟨b_RB, 1, none⟩ = some (.int .i64 y') ∧ u.cell? ⟨b_RB, 2, none⟩ = some (.slice bo m cb) ∧ Below X60.heap.size X60 u) from fun u h => ⟨(row3 (row_next h (unhide R2))).1, (row3 (row_next h (unhide R2))).2.1, (row3 (row_next h (unhide R2))).2.2, (row3 (row_next h (unhide RB))).1, (row3 (row_next h (unhide RB))).2.1, (row3 (row_next h (unhide RB))).2.2, h⟩)
      have kS := hide (show ∀ u, (u.cell? ⟨b_R2, 0, none⟩ = some (.int .i64 x') ∧ u.cell? ⟨b_R2, 1, none⟩ = some (.int .i64 y') ∧ u.cell? ⟨b_R2, 2, none⟩ = some (.slice (some ⟨s_b, 0, none⟩) m m) ∧ u.cell? ⟨b_RB, 0, none⟩ = some (.int .i64 x') ∧ u.cell? ⟨b_RB, 1, none⟩ = some (.int .i64 y') ∧ u.cell? ⟨b_RB, 2, none⟩ = some (.slice bo m cb) ∧ Below X60.heap.size X60 u) → Below X60.heap.size X60 u from fun u h => h.2.2.2.2.2.2)
      have k00 := hide (unhide k0 _ (Below.refl _ _).drew)
      have hd : X60.drew.heap.size = X60.heap.size := rfl
      go_cut [44] (fun s u => s = .bool false ∧ Below X60.heap.size X60 u)
      case first =>
        go_region_held3 (fun u => u.cell? ⟨b_R2, 0, none⟩ = some (.int .i64 x') ∧ u.cell? ⟨b_R2, 1, none⟩ = some (.int .i64 y') ∧ u.cell? ⟨b_R2, 2, none⟩ = some (.slice (some ⟨s_b, 0, none⟩) m m) ∧ u.cell? ⟨b_RB, 0, none⟩ = some (.int .i64 x') ∧ u.cell? ⟨b_RB, 1, none⟩ = some (.int .i64 y') ∧ u.cell? ⟨b_RB, 2, none⟩ = some (.slice bo m cb) ∧ Below X60.heap.size X60 u) ((first | with_reducible exact unhide k00 | (refine unhide k0 _ ?_; first | with_reducible assumption | (with_reducible refine below_new _ ?_ (Nat.le_refl _); with_reducible assumption) | (with_reducible refine Below.drew ?_; with_reducible exact below_new _ (Below.refl _ _) (Nat.le_refl _)) | (with_reducible refine below_put3 ?_ ?_ _ _ _ <;> first | with_reducible assumption | omega)))) (first | (go_at_call 11; go_fit (unhide TSB _ (below_two (unhide HB) (unhide kS _ (by with_reducible assumption)))); rintro r y1 ⟨s1, rfl, hpv, hb1⟩; have hW1 := below_after hb1 (unhide kS _ (by with_reducible assumption)) (Nat.le_refl _); have hsz := hb1.size; have hge := hW1.size; have pv := hide hpv; clear hpv) | (go_at_call 13; (first | go_fit (unhide EXB _ _ _ _ _ ((unhide plb).next (unhide kS _ (by with_reducible assumption))) (unhide pv))); rintro r y1 ⟨rfl, hb1⟩; have hW1 := below_after hb1 (unhide kS _ (by with_reducible assumption)) (Nat.le_refl _); have hsz := hb1.size; have hge := hW1.size))
        all_goals
          go_wp2_with fail
          go_meet
          exact ⟨rfl, unhide kS _ (by with_reducible assumption)⟩
      case rest =>
        obtain ⟨rfl, hb⟩ := hcut
        replace RA := hide (row_next hb (unhide RA))
        replace RB := hide (row_next hb (unhide RB))
        replace R1 := hide (row_next hb (unhide R1))
        replace R2 := hide (row_next hb (unhide R2))
        replace pla := hide ((unhide pla).next hb)
        replace plb := hide ((unhide plb).next hb)
        replace CUR := hide (Nat.le_trans (unhide CUR) (Below.size hb))
        replace HB := hide (below_two (unhide HB) hb)
        clear hb k0 kS k00 hd
        generalize wc = X61 at *
        go_wp2_with fail
        go_ret
        exact ⟨rfl, unhide HB⟩
end Go.Proofs.Ytmomgbnhildpdab
