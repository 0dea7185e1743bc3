/-
  ByI · MasksX: texts of one claim, in one.
-/
import Derived.Test.YtmomgbnhildpdabFnMasksM7
import Derived.Test.YtmomgbnhildpdabFnMasksM4
import Derived.Test.YtmomgbnhildpdabFnMasksM2

/-
  The program's MaskBy: runs within a box, runs drawn, lists of runs held against each other. (By byimpl.py.)
-/
namespace Go.Proofs.Ytmomgbnhildpdab
open Go.RowKit
set_option linter.unusedVariables false

/-- What the program asks of a run. -/
def wiB (a b c d : Int) (r : B4) : Bool := (decide (a ≤ r.y0) && (decide (r.y0 < r.x1) && decide (r.x1 ≤ c))) && (decide (b ≤ r.x0) && (decide (r.x0 < d) && (decide (1 ≤ r.y1) && decide (r.y1 ≤ 15))))
theorem wi_iff {a b c d : Int} {r : B4} : wiB a b c d r = true ↔ (a ≤ r.y0 ∧ r.y0 < r.x1 ∧ r.x1 ≤ c) ∧ b ≤ r.x0 ∧ r.x0 < d ∧ 1 ≤ r.y1 ∧ r.y1 ≤ 15 := by
  simp only [wiB, Bool.and_eq_true, decide_eq_true_eq]
theorem wi_in {a b c d : Int} {r : B4} (h : wiB a b c d r = true) : inRunB a b c d r = true := by
  rw [wi_iff] at h
  unfold inRunB
  rw [Bool.and_eq_true, Bool.and_eq_true, inB_true, inB_true, inB_true]
  omega
theorem paint_bd {a b c : Int} {G : Nat → B4} (i : Nat) : ∀ (k : Nat), (∀ j, j < k → 1 ≤ (G j).y1 ∧ (G j).y1 ≤ 15) → inB (paintN a b c G k i) 0 15 = true
  | 0, _ => by rw [inB_true]; simp [paintN]
  | k + 1, h => by
    rw [paintN]
    split
    · rw [inB_true]; have := h k (by omega); omega
    · exact paint_bd i k (fun j hj => h j (by omega))
/-- What the program goes by, and what the specification does: the same. -/
theorem by_ways {a b c d : Int} {m N : Nat} {G : Nat → B4} (hg : (a = 0 ∧ b = 0 ∧ c = 0 ∧ d = 0) ∨ boxInB a b c d = true) (hN : sqN a b c d = N) :
    ByOk a b c d m G ↔ m ≤ N ∧ (∀ k, k < m → wiB a b c d (G k) = true) ∧ (runsL a b c d (paintN a b c G m)).length = m ∧ ∀ k, k < m → listB (runsL a b c d (paintN a b c G m)) k = G k := by
  rcases hg with ⟨rfl, rfl, rfl, rfl⟩ | hb
  · have h0 : N = 0 := by rw [← hN]; rfl
    constructor
    · rintro (⟨_, _, _, _, rfl⟩ | ⟨h, _⟩)
      · exact ⟨by omega, fun k hk => absurd hk (by omega), rfl, fun k hk => absurd hk (by omega)⟩
      · exact absurd h (by decide)
    · rintro ⟨h, _⟩
      exact .inl ⟨rfl, rfl, rfl, rfl, by omega⟩
  · constructor
    · rintro (⟨rfl, rfl, rfl, rfl, _⟩ | ⟨_, h1, h2, h3, h4, h5⟩)
      · exact absurd hb (by decide)
      · have hM : MOk a b c d (sqN a b c d) (paintN a b c G m) := .inr ⟨(sqN_le hb).2, hb, rfl, h3⟩
        refine ⟨by rw [← h4, ← hN]; exact runsL_len _, fun k hk => ?_, h4, h5⟩
        have hmem : G k ∈ runsL a b c d (paintN a b c G m) := by rw [← h5 k hk]; exact listB_mem (by omega)
        obtain ⟨q1, q2⟩ := runsL_in hb _ hmem
        have q1' := q1
        unfold inRunB at q1'
        rw [Bool.and_eq_true, Bool.and_eq_true, inB_true, inB_true, inB_true] at q1'
        have q3 := runsL_at hb _ hmem (x := (G k).y0) (Int.le_refl _) (by omega)
        have q4 := at_bd hM (G k).y0 (G k).x0
        rw [q3] at q4
        rw [wi_iff]
        omega
    · rintro ⟨h1, h2, h3, h4⟩
      exact .inr ⟨hb, by have := (sqN_le hb).1; omega, fun k hk => wi_in (h2 k hk), fun i _ => paint_bd i m (fun j hj => by have := wi_iff.1 (h2 j hj); omega), h3, h4⟩

theorem eqlRun (a b c d e f g h : Int) (w : World) : (Op.equalIn 10000 57 (.agg #[.int .i64 a, .int .i64 b, .int .i64 c, .int .i64 d]) (.agg #[.int .i64 e, .int .i64 f, .int .i64 g, .int .i64 h])).run Try.prog w = .ok (decide (a = e) && (decide (b = f) && (decide (c = g) && decide (d = h)))) w := by
  have u3 := Try.underlying3
  have a3 := Try.isAgg3
  have z3 := Try.sizeOf3
  have hS : Try.prog.underlying 57 = some (.struct (Try.prog.fieldsOf 57)) := by kernel_rfl
  rw [show (10000 : Nat) = 9999 + 1 from rfl, run_equalIn_agg w 9999 57 _ _ hS (by kernel_rfl)]
  simp only [Program.fieldsOf, Try.underlying57]
  go_simp
  by_cases h1 : a = e
  · by_cases h2 : b = f
    · by_cases h3 : c = g
      · by_cases h4 : d = h <;> simp [h1, h2, h3, h4]
      · simp [h1, h2, h3]
    · simp [h1, h2]
  · simp [h1]

set_option maxHeartbeats 4000000 in
set_option maxRecDepth 100000 in
theorem implEqualRuns_any (G H : Nat → B4) (ao bo : Option Addr) (n ca m cb : Nat) (hn : n ≤ 1048576) (hm : m ≤ 1048576) (X : Bool) (hX : X = true ↔ n = m ∧ ∀ i, i < n → G i = H i) (w : World) (PA : ∀ i, i < n → RnAt w ao i (G i)) (PB : ∀ i, i < m → RnAt w bo i (H i)) :
    Calls Try.prog 69 #[.slice ao n ca, .slice bo m cb] w fun r w' => r = .returned (.bool X) ∧ Below w.heap.size w w' := by
  replace hX := hide hX
  replace PA := hide PA
  replace PB := hide PB
  by_cases hnm : n = m
  · subst hnm
    have hX2 : Hid (X = true ↔ ∀ i, i < n → G i = H i) := by unfold Hid; rw [unhide hX]; simp
    clear hX
    go_enter Try.func69, Try.ntmps69
    go_upto_region 4 with fail
    go_loopw [13] (fun i u => ∃ k : Nat, k ≤ n ∧ i = .int .i64 (k : Int) ∧ Hid (∀ j, j < k → G j = H j) ∧ Hid (Below w.heap.size w u)) (fun i _ => n - (intOf i).toNat)
    case atStart => exact ⟨0, Nat.zero_le _, rfl, fun j hj => absurd hj (by omega), Below.refl _ _⟩
    case round =>
      obtain ⟨k, hk, rfl, HK, HB⟩ := hrel
      by_cases hlt : k < n
      · have hki : (k : Int) < (n : Int) := by omega
        obtain ⟨s, o, rfl, g0, g1, g2, g3⟩ := (unhide PA k hlt).next (unhide HB)
        obtain ⟨s', o', rfl, p0, p1, p2, p3⟩ := (unhide PB k hlt).next (unhide HB)
        have hne : Hid (G k = H k ↔ G k = H k) := Iff.rfl
        obtain ⟨r, hr⟩ : ∃ r, Hid (G k = r) := ⟨_, rfl⟩
        obtain ⟨q, hq⟩ : ∃ q, Hid (H k = q) := ⟨_, rfl⟩
        rw [unhide hr] at g0 g1 g2 g3
        rw [unhide hq] at p0 p1 p2 p3
        obtain ⟨r0, r1, r2, r3⟩ := r
        obtain ⟨q0, q1, q2, q3⟩ := q
        dsimp only at g0 g1 g2 g3 p0 p1 p2 p3
        by_cases he : r0 = q0 ∧ r1 = q1 ∧ r2 = q2 ∧ r3 = q3
        · obtain ⟨rfl, rfl, rfl, rfl⟩ := he
          have eq1 : ∀ u, (Op.equalIn 10000 57 (.agg #[.int .i64 r0, .int .i64 r1, .int .i64 r2, .int .i64 r3]) (.agg #[.int .i64 r0, .int .i64 r1, .int .i64 r2, .int .i64 r3])).run Try.prog u = .ok true u := fun u => by rw [eqlRun]; simp
          have HK2 : Hid (∀ j, j < k + 1 → G j = H j) := fun j hj => by
            by_cases e : j = k
            · rw [e, unhide hr, unhide hq]
            · exact unhide HK j (by omega)
          go_upto_region 6 with fail
          go_quiet (fail)
          have HB2 := hide (below_drews (unhide HB) nq)
          go_wp2_with fail
          go_roundw
          case rel => exact ⟨k + 1, by omega, by go_num, HK2, HB2⟩
          case measure => simp [intOf]; omega
        · have hf : (decide (r0 = q0) && (decide (r1 = q1) && (decide (r2 = q2) && decide (r3 = q3)))) = false := by
            rw [Bool.eq_false_iff]; intro h; simp only [Bool.and_eq_true, decide_eq_true_eq] at h; exact he h
          have eq1 : ∀ u, (Op.equalIn 10000 57 (.agg #[.int .i64 r0, .int .i64 r1, .int .i64 r2, .int .i64 r3]) (.agg #[.int .i64 q0, .int .i64 q1, .int .i64 q2, .int .i64 q3])).run Try.prog u = .ok false u := fun u => by rw [eqlRun, hf]
          have hX3 : Hid (false = X) := by
            cases X with
            | false => rfl
            | true =>
              exfalso
              have := (unhide hX2).1 rfl k hlt
              rw [unhide hr, unhide hq] at this
              cases this
              exact he ⟨rfl, rfl, rfl, rfl⟩
          clear hf he
          go_upto_region 6 with fail
          go_quiet (fail)
          have HB2 := hide (below_drews (unhide HB) nq)
          go_wp2_with fail
          go_ret
          exact ⟨ret_bool (unhide hX3), unhide HB2⟩
      · obtain rfl : k = n := by omega
        have hki : ¬ (k : Int) < (k : Int) := by omega
        have hX3 : Hid (true = X) := ((unhide hX2).2 (unhide HK)).symm
        go_wp2_with fail
        go_ret
        exact ⟨ret_bool (unhide hX3), unhide HB⟩
  · have hX3 : Hid (false = X) := by
      cases X with
      | false => rfl
      | true => exact absurd ((unhide hX).1 rfl).1 hnm
    have hnb : ((n : Int) == (m : Int)) = false := beq_eq_false_iff_ne.2 (by omega)
    go_enter Try.func69, Try.ntmps69
    go_wp2_with fail
    go_ret
    exact ⟨ret_bool (unhide hX3), Below.refl _ _⟩

set_option maxHeartbeats 4000000 in
set_option maxRecDepth 100000 in
theorem implRunWithin_any (a b c d : Int) (ry rx0 rx1 rv : Int) (w : World) :
    Calls Try.prog 67 #[.agg #[.int .i64 a, .int .i64 b, .int .i64 c, .int .i64 d], .agg #[.int .i64 ry, .int .i64 rx0, .int .i64 rx1, .int .i64 rv]] w fun r w' => r = .returned (.bool (wiB a b c d ⟨ry, rx0, rx1, rv⟩)) ∧ Below w.heap.size w w' := by
  by_cases c1 : a ≤ rx0
  · have dc1 : decide (a ≤ rx0) = true := decide_eq_true c1
    by_cases c2 : rx0 < rx1
    · have dc2 : decide (rx0 < rx1) = true := decide_eq_true c2
      by_cases c3 : rx1 ≤ c
      · have dc3 : decide (rx1 ≤ c) = true := decide_eq_true c3
        by_cases c4 : b ≤ ry
        · have dc4 : decide (b ≤ ry) = true := decide_eq_true c4
          by_cases c5 : ry < d
          · have dc5 : decide (ry < d) = true := decide_eq_true c5
            by_cases c6 : 1 ≤ rv
            · have dc6 : decide (1 ≤ rv) = true := decide_eq_true c6
              by_cases c7 : rv ≤ 15
              · have dc7 : decide (rv ≤ 15) = true := decide_eq_true c7
                have H : Hid (true = wiB a b c d ⟨ry, rx0, rx1, rv⟩) := by unfold Hid wiB; simp [c1, c2, c3, c4, c5, c6, c7]
                go_enter Try.func67, Try.ntmps67
                go_wp2
                go_ret
                exact ⟨ret_bool' (unhide H), al2_below _ _ _⟩
              · have dc7 : decide (rv ≤ 15) = false := decide_eq_false c7
                have H : Hid (false = wiB a b c d ⟨ry, rx0, rx1, rv⟩) := by unfold Hid wiB; simp [c1, c2, c3, c4, c5, c6, c7]
                go_enter Try.func67, Try.ntmps67
                go_wp2
                go_ret
                exact ⟨ret_bool' (unhide H), al2_below _ _ _⟩
            · have dc6 : decide (1 ≤ rv) = false := decide_eq_false c6
              have H : Hid (false = wiB a b c d ⟨ry, rx0, rx1, rv⟩) := by unfold Hid wiB; simp [c1, c2, c3, c4, c5, c6]
              go_enter Try.func67, Try.ntmps67
              go_wp2
              go_ret
              exact ⟨ret_bool' (unhide H), al2_below _ _ _⟩
          · have dc5 : decide (ry < d) = false := decide_eq_false c5
            have H : Hid (false = wiB a b c d ⟨ry, rx0, rx1, rv⟩) := by unfold Hid wiB; simp [c1, c2, c3, c4, c5]
            go_enter Try.func67, Try.ntmps67
            go_wp2
            go_ret
            exact ⟨ret_bool' (unhide H), al2_below _ _ _⟩
        · have dc4 : decide (b ≤ ry) = false := decide_eq_false c4
          have H : Hid (false = wiB a b c d ⟨ry, rx0, rx1, rv⟩) := by unfold Hid wiB; simp [c1, c2, c3, c4]
          go_enter Try.func67, Try.ntmps67
          go_wp2
          go_ret
          exact ⟨ret_bool' (unhide H), al2_below _ _ _⟩
      · have dc3 : decide (rx1 ≤ c) = false := decide_eq_false c3
        have H : Hid (false = wiB a b c d ⟨ry, rx0, rx1, rv⟩) := by unfold Hid wiB; simp [c1, c2, c3]
        go_enter Try.func67, Try.ntmps67
        go_wp2
        go_ret
        exact ⟨ret_bool' (unhide H), al2_below _ _ _⟩
    · have dc2 : decide (rx0 < rx1) = false := decide_eq_false c2
      have H : Hid (false = wiB a b c d ⟨ry, rx0, rx1, rv⟩) := by unfold Hid wiB; simp [c1, c2]
      go_enter Try.func67, Try.ntmps67
      go_wp2
      go_ret
      exact ⟨ret_bool' (unhide H), al2_below _ _ _⟩
  · have dc1 : decide (a ≤ rx0) = false := decide_eq_false c1
    have H : Hid (false = wiB a b c d ⟨ry, rx0, rx1, rv⟩) := by unfold Hid wiB; simp [c1]
    go_enter Try.func67, Try.ntmps67
    go_wp2
    go_ret
    exact ⟨ret_bool' (unhide H), al2_below _ _ _⟩

set_option maxHeartbeats 4000000 in
set_option maxRecDepth 100000 in
theorem implDrawRun_any (a b c d : Int) (ry rx0 rx1 rv : Int) (N g P0 T0 : Nat) (hb : boxInB a b c d = true) (hy : b ≤ ry ∧ ry < d) (hx : a ≤ rx0 ∧ rx0 < rx1 ∧ rx1 ≤ c) (hN : sqN a b c d = N) (hP : (placeI a b c rx0 ry).toNat = P0) (hT : (rx1 - rx0).toNat = T0) (f : Nat → Int) (w : World) (own : ∃ xs, w.ownsRow g 3 1 (.slice (some ⟨g, 0, none⟩) N N) N xs ∧ IxAt xs f N) :
    Calls Try.prog 68 #[.agg #[.int .i64 a, .int .i64 b, .int .i64 c, .int .i64 d, .slice (some ⟨g, 0, none⟩) N N], .agg #[.int .i64 ry, .int .i64 rx0, .int .i64 rx1, .int .i64 rv]] w fun r w' => r = .returned (.tuple #[]) ∧ w.grownBy w' (some g) ∧ ∃ xs, w'.ownsRow g 3 1 (.slice (some ⟨g, 0, none⟩) N N) N xs ∧ IxAt xs (fun i => if P0 ≤ i ∧ i < P0 + T0 then rv else f i) N := by
  have hPT : P0 + T0 ≤ N := by
    have hs := stretch (x0 := rx0) (x1 := rx1) hb hy hx
    rw [hN] at hs; omega
  have ER := hide (implRowOf_any a b c d ry rx0 rx1 g 0 N N hb hy hx hN (Nat.le_refl _))
  rw [hP, hT] at ER
  have lg : g < w.heap.size := let ⟨xs, o, _⟩ := own; (o.lt g rfl).2
  have hN3 : N ≤ 3600 := by rw [← hN]; exact (sqN_le hb).1
  replace lg := hide lg
  replace own := hide own
  clear hb hy hx hN hP hT
  go_enter Try.func68, Try.ntmps68
  go_upto_region 1 with fail
  have R2 := hide (al2_0 w (.cells #[.int .i64 a, .int .i64 b, .int .i64 c, .int .i64 d, .slice (some ⟨g, 0, none⟩) N N] 44) (.cells #[.int .i64 ry, .int .i64 rx0, .int .i64 rx1, .int .i64 rv] 57))
  have R3 := hide (al2_1 w (.cells #[.int .i64 a, .int .i64 b, .int .i64 c, .int .i64 d, .slice (some ⟨g, 0, none⟩) N N] 44) (.cells #[.int .i64 ry, .int .i64 rx0, .int .i64 rx1, .int .i64 rv] 57))
  have HB := hide (al2_below w (.cells #[.int .i64 a, .int .i64 b, .int .i64 c, .int .i64 d, .slice (some ⟨g, 0, none⟩) N N] 44) (.cells #[.int .i64 ry, .int .i64 rx0, .int .i64 rx1, .int .i64 rv] 57))
  obtain ⟨b3, hb3⟩ : ∃ b, Hid (b = w.heap.size + 1) := ⟨_, rfl⟩
  obtain ⟨b2, hb2⟩ : ∃ b, Hid (b = w.heap.size) := ⟨_, rfl⟩
  have lz : Hid (g < b3) := by unfold Hid; rw [unhide hb3]; have := unhide lg; omega
  rw [← unhide hb3] at R3
  rw [← unhide hb2] at R2
  rw [← unhide hb3, ← unhide hb2]
  generalize (w.alloc (.cells #[.int .i64 a, .int .i64 b, .int .i64 c, .int .i64 d, .slice (some ⟨g, 0, none⟩) N N] 44)).alloc (.cells #[.int .i64 ry, .int .i64 rx0, .int .i64 rx1, .int .i64 rv] 57) = W at R2 R3 HB ⊢
  clear hb3 hb2
  obtain ⟨q0, q1, q2, q3, q4⟩ := row5m (unhide R2)
  obtain ⟨p0, p1, p2, p3⟩ := row4 (unhide R3)
  go_wp2_with fail
  go_fit (unhide ER _)
  rintro r w1 ⟨rfl, hb⟩
  replace R3 := hide (row_next hb (unhide R3))
  replace HB := hide (below_two (unhide HB) hb)
  clear hb q0 q1 q2 q3 q4 p0 p1 p2 p3 R2 ER
  go_upto_region 3 with fail
  go_loopw [16] (fun x u => ∃ t : Nat, t ≤ T0 ∧ x = .int .i64 (t : Int) ∧ Hid (w.grownBy u (some g)) ∧ Hid (∃ xs, u.ownsRow g 3 1 (.slice (some ⟨g, 0, none⟩) N N) N xs ∧ IxAt xs (fun i => if P0 ≤ i ∧ i < P0 + t then rv else f i) N) ∧ Hid (u.heap[b3]? = some (.cells #[.int .i64 ry, .int .i64 rx0, .int .i64 rx1, .int .i64 rv] 57 (0, 0)))) (fun x _ => T0 - (intOf x).toNat)
  case atStart => exact ⟨0, Nat.zero_le _, rfl, grown_of_below (unhide HB) _, let ⟨xs, o, x⟩ := unhide own; ⟨xs, own_below o (unhide HB), ix_congr x (fun i _ => by rw [if_neg (by omega)])⟩, R3⟩
  case round =>
    clear HB R3
    obtain ⟨t, ht, rfl, HG, OW, R3⟩ := hrel
    obtain ⟨p0, p1, p2, p3⟩ := row4 (unhide R3)
    by_cases htl : t < T0
    · have hti : (t : Int) < (T0 : Int) := by omega
      obtain ⟨c0, c1⟩ : wr.cell? ⟨g, P0 + t, none⟩ = some (.int .i64 (if P0 ≤ P0 + t ∧ P0 + t < P0 + t then rv else f (P0 + t))) ∧ wr.frozen? ⟨g, P0 + t, none⟩ = false := by
        obtain ⟨xs, o, x⟩ := unhide OW
        exact ⟨by rw [o.cellAt _ (by omega)]; exact x _ (by omega), o.frozenAt _⟩
      rw [if_neg (by omega)] at c0
      have OW2 : Hid (∃ xs, (wr.setCell ⟨g, P0 + t, none⟩ (.int .i64 rv)).ownsRow g 3 1 (.slice (some ⟨g, 0, none⟩) N N) N xs ∧ IxAt xs (fun i => if P0 ≤ i ∧ i < P0 + (t + 1) then rv else f i) N) := by
        obtain ⟨xs, o, x⟩ := unhide OW
        refine ⟨_, (o.stored _ _).1, ix_congr (ix_set x (by have := o.1; omega)) (fun i _ => ?_)⟩
        show (if i = P0 + t then rv else (if P0 ≤ i ∧ i < P0 + t then rv else f i)) = (if P0 ≤ i ∧ i < P0 + (t + 1) then rv else f i)
        by_cases h1 : i = P0 + t
        · rw [if_pos h1, if_pos (show P0 ≤ i ∧ i < P0 + (t + 1) by omega)]
        · rw [if_neg h1]
          by_cases h2 : P0 ≤ i ∧ i < P0 + t
          · rw [if_pos h2, if_pos (show P0 ≤ i ∧ i < P0 + (t + 1) by omega)]
          · rw [if_neg h2, if_neg (show ¬ (P0 ≤ i ∧ i < P0 + (t + 1)) by omega)]
      have HG2 := hide (grown_trans (unhide HG) (setc_grown wr g (P0 + t) (.int .i64 rv)))
      have R4 := hide (setc_other (b := g) (j := P0 + t) (v := .int .i64 rv) (by have := unhide lz; omega) (unhide R3))
      go_wp2_with fail
      go_roundw
      case rel => exact ⟨t + 1, by omega, by go_num, HG2, OW2, R4⟩
      case measure => simp [intOf]; omega
    · obtain rfl : t = T0 := by omega
      have hti : ¬ (t : Int) < (t : Int) := by omega
      go_wp2_with fail
      go_end0
      exact ⟨rfl, unhide HG, unhide OW⟩

theorem ByS.drawn {w u u' : World} {b2 b4 b6 g : Nat} {a b c d : Int} {N : Nat} {f f' : Nat → Int} (h : ByS w u b2 b4 b6 g a b c d N f) (hg : u.grownBy u' (some g)) (own : ∃ xs, u'.ownsRow g 3 1 (.slice (some ⟨g, 0, none⟩) N N) N xs ∧ IxAt xs f' N) (hw : w.heap.size ≤ g) (h2 : b2 < g) (h4 : b4 < g) (h6 : g < b6) : ByS w u' b2 b4 b6 g a b c d N f' :=
  ⟨(hg.block b2 (heap_lt h.box) (by intro e; cases e; omega)).trans h.box, (hg.block b4 (heap_lt h.zero) (by intro e; cases e; omega)).trans h.zero, (hg.block b6 (heap_lt h.row) (by intro e; cases e; omega)).trans h.row,
    own, h.bel.trans (below_of_grown hg h.bel.size (fun k hk => by cases hk; exact hw))⟩
theorem RunsRes.opn {w w' : World} {r : Ending} {l : List B4} (h : RunsRes w r w' l) : ∃ a cap, r = .returned (.slice a l.length cap) ∧ (∀ i, i < l.length → RnAt w' a i (listB l i)) ∧ Below w.heap.size w w' := by
  obtain ⟨v, h1, h2, h3⟩ := h
  obtain ⟨a, cap, rfl, _, h5⟩ := own_rn h2
  exact ⟨a, cap, h1, fun i hi => by rw [listB_get hi]; exact h5 i hi, h3⟩
theorem eqZero_yesN (w : World) : (binOp .neq 42 (.agg #[.int .i64 0, .int .i64 0, .int .i64 0, .int .i64 0]) (.agg #[.int .i64 0, .int .i64 0, .int .i64 0, .int .i64 0])).run Try.prog w = .ok (.bool false) w := by kernel_rfl
theorem eqZeroN_d (w : World) (d : Int) (h : ¬ d = 0) : (binOp .neq 42 (.agg #[.int .i64 0, .int .i64 0, .int .i64 0, .int .i64 d]) (.agg #[.int .i64 0, .int .i64 0, .int .i64 0, .int .i64 0])).run Try.prog w = .ok (.bool true) w := by
  cases d with
  | ofNat n =>
    cases n with
    | zero => exact absurd rfl h
    | succ n => kernel_rfl
  | negSucc n => kernel_rfl
theorem eqZeroN_no (w : World) (a b c d : Int) (h : ¬ (a = 0 ∧ b = 0 ∧ c = 0 ∧ d = 0)) : (binOp .neq 42 (.agg #[.int .i64 a, .int .i64 b, .int .i64 c, .int .i64 d]) (.agg #[.int .i64 0, .int .i64 0, .int .i64 0, .int .i64 0])).run Try.prog w = .ok (.bool true) w := by
  by_cases ha : a = 0
  · subst ha
    by_cases hb : b = 0
    · subst hb
      by_cases hc : c = 0
      · subst hc
        exact eqZeroN_d w d (fun hd => h ⟨rfl, rfl, rfl, hd⟩)
      · cases c with
        | ofNat n =>
          cases n with
          | zero => exact absurd rfl hc
          | succ n => kernel_rfl
        | negSucc n => kernel_rfl
    · cases b with
      | ofNat n =>
        cases n with
        | zero => exact absurd rfl hb
        | succ n => kernel_rfl
      | negSucc n => kernel_rfl
  · cases a with
    | ofNat n =>
      cases n with
      | zero => exact absurd rfl ha
      | succ n => kernel_rfl
    | negSucc n => kernel_rfl

theorem by_done {w u : World} {b2 b4 b6 g : Nat} {a b c d : Int} {N : Nat} {f : Nat → Int} (h : ByS w u b2 b4 b6 g a b c d N f) (hw : w.heap.size ≤ g) (h4 : w.heap.size ≤ b4) (h5 : b4 ≠ g) {v0 v1 v2 v3 v4 : Value} :
    ByRes w (.returned (.tuple #[.agg #[.int .i64 a, .int .i64 b, .int .i64 c, .int .i64 d, .slice (some ⟨g, 0, none⟩) N N], .bool true])) (((((u.setCell ⟨b4, 0, none⟩ v0).setCell ⟨b4, 1, none⟩ v1).setCell ⟨b4, 2, none⟩ v2).setCell ⟨b4, 3, none⟩ v3).setCell ⟨b4, 4, none⟩ v4) true a b c d N f := by
  obtain ⟨xs, o, x⟩ := h.own
  exact ⟨_, _, rfl, ⟨xs, own_low (own_put5 o (fun k hk => by simp [Value.ownBlock] at hk; omega) _ _ _ _ _) hw, x⟩, below_put5 h.bel h4 _ _ _ _ _⟩

attribute [local go_sem ↓] eqZero_yesN eqZeroN_no in
set_option maxHeartbeats 16000000 in
set_option maxRecDepth 100000 in
theorem implMaskBy_any (a b c d : Int) (G : Nat → B4) (ao : Option Addr) (m cap : Nat) (hm : m ≤ 1048576) (w : World) (P : ∀ i, i < m → RnAt w ao i (G i)) :
    Calls Try.prog 26 #[.agg #[.int .i64 a, .int .i64 b, .int .i64 c, .int .i64 d], .slice ao m cap] w fun r w' => ByRes w r w' (byOkB a b c d m G) a b c d (sqN a b c d) (paintN a b c G m) := by
  have hyes : Hid (ByOk a b c d m G → byOkB a b c d m G = true) := fun h => byOk_iff.2 h
  have hno : Hid (¬ ByOk a b c d m G → byOkB a b c d m G = false) := fun h => byOk_no h
  generalize byOkB a b c d m G = X at hyes hno ⊢
  have EB := hide (implMaskBoxOk_any a b c d)
  replace P := hide P
  by_cases hbad : ¬ (a = 0 ∧ b = 0 ∧ c = 0 ∧ d = 0) ∧ boxInB a b c d = false
  · obtain ⟨hz, hbi⟩ := hbad
    rw [hbi] at EB
    obtain rfl := unhide hno (fun h => by
      rcases h with ⟨h0, h1, h2, h3, _⟩ | ⟨h, _⟩
      · exact hz ⟨h0, h1, h2, h3⟩
      · rw [hbi] at h; cases h)
    clear hbi hyes hno
    go_enter Try.func26, Try.ntmps26
    go_upto_region 1 with fail
    have R2 := hide (al2_0 w (.cells #[.int .i64 a, .int .i64 b, .int .i64 c, .int .i64 d] 42) (.cells #[.int .i64 0, .int .i64 0, .int .i64 0, .int .i64 0, .slice none 0 0] 44))
    have R4 := hide (al2_1 w (.cells #[.int .i64 a, .int .i64 b, .int .i64 c, .int .i64 d] 42) (.cells #[.int .i64 0, .int .i64 0, .int .i64 0, .int .i64 0, .slice none 0 0] 44))
    have HB := hide (al2_below w (.cells #[.int .i64 a, .int .i64 b, .int .i64 c, .int .i64 d] 42) (.cells #[.int .i64 0, .int .i64 0, .int .i64 0, .int .i64 0, .slice none 0 0] 44))
    obtain ⟨b4, hb4⟩ : ∃ b, Hid (b = w.heap.size + 1) := ⟨_, rfl⟩
    obtain ⟨b2, hb2⟩ : ∃ b, Hid (b = w.heap.size) := ⟨_, rfl⟩
    have lz : Hid (w.heap.size ≤ b4 ∧ b2 < b4) := by unfold Hid; rw [unhide hb4, unhide hb2]; omega
    rw [← unhide hb4] at R4
    rw [← unhide hb2] at R2
    rw [← unhide hb4, ← unhide hb2]
    generalize (w.alloc (.cells #[.int .i64 a, .int .i64 b, .int .i64 c, .int .i64 d] 42)).alloc (.cells #[.int .i64 0, .int .i64 0, .int .i64 0, .int .i64 0, .slice none 0 0] 44) = W at R2 R4 HB ⊢
    clear hb4 hb2
    obtain ⟨q0, q1, q2, q3⟩ := row4 (unhide R2)
    go_wp2_with fail
    go_fit (unhide EB _)
    rintro r w1 ⟨rfl, hb⟩
    replace R4 := hide (row_next hb (unhide R4))
    replace HB := hide (below_two (unhide HB) hb)
    clear hb q0 q1 q2 q3 R2
    obtain ⟨e0, e1, e2, e3, e4⟩ := row5m (unhide R4)
    obtain ⟨f0, f1, f2, f3, f4⟩ := frozen5 (unhide R4)
    go_wp2_with fail
    refine bodyPost_ret (v := .tuple #[.agg #[.int .i64 0, .int .i64 0, .int .i64 0, .int .i64 0, .slice none 0 0], .bool false]) (by simp [results, Try.results26, go_sem, e0, e1, e2, e3, e4]) rfl ?_
    exact by_none (below_put5 (unhide HB) (unhide lz).1 _ _ _ _ _)
  have hgood : (a = 0 ∧ b = 0 ∧ c = 0 ∧ d = 0) ∨ boxInB a b c d = true := by
    by_cases hz : a = 0 ∧ b = 0 ∧ c = 0 ∧ d = 0
    · exact .inl hz
    · exact .inr (by cases h : boxInB a b c d with | true => rfl | false => exact absurd ⟨hz, h⟩ hbad)
  clear hbad
  obtain ⟨N, hN⟩ : ∃ N, sqN a b c d = N := ⟨_, rfl⟩
  rw [hN]
  have hw := by_ways (m := m) (G := G) hgood hN
  have hNf : (N : Int) = (c - a) * (d - b) ∧ N ≤ 3600 ∧ (-2000 ≤ a ∧ a ≤ 2000 ∧ -2000 ≤ b ∧ b ≤ 2000 ∧ -2000 ≤ c ∧ c ≤ 2000 ∧ -2000 ≤ d ∧ d ≤ 2000) := by
    rcases hgood with ⟨rfl, rfl, rfl, rfl⟩ | h
    · have : N = 0 := by rw [← hN]; rfl
      subst this; exact ⟨rfl, by omega, by omega⟩
    · have h1 := boxIn_iff.1 h
      rw [← hN]; exact ⟨sqN_int h, (sqN_le h).1, by omega⟩
  obtain ⟨hNi, hNl, hlim⟩ := hNf
  have EN := hide (implBlankMask_any a b c d N (IntWalk.i64_in _ (by omega)) (IntWalk.i64_in _ (by omega)) hNi hNl)
  have hMk : Hid (∀ F : Nat → Int, (∀ i, inB (F i) 0 15 = true) → runsM a b c d N F = runsL a b c d F) := fun F hF => by
    unfold runsM
    rw [if_pos (maskOk_iff.2 ?_)]
    rcases hgood with ⟨rfl, rfl, rfl, rfl⟩ | h
    · exact .inl ⟨by rw [← hN]; rfl, rfl, rfl, rfl, rfl⟩
    · exact .inr ⟨by have := (sqN_le h).2; omega, h, hN.symm, fun i _ => hF i⟩
  have hbox : Hid (∀ r, wiB a b c d r = true → boxInB a b c d = true) := fun r hr => by
    rcases hgood with ⟨rfl, rfl, rfl, rfl⟩ | h
    · rw [wi_iff] at hr; omega
    · exact h
  replace hw := hide hw
  replace hN := hide hN
  have hcon : Hid (¬ (a = 0 ∧ b = 0 ∧ c = 0 ∧ d = 0) → boxInB a b c d = true) := fun hz => hgood.resolve_left hz
  clear hgood hNi
  go_enter Try.func26, Try.ntmps26
  go_upto_region 1 with fail
  have R2 := hide (al2_0 w (.cells #[.int .i64 a, .int .i64 b, .int .i64 c, .int .i64 d] 42) (.cells #[.int .i64 0, .int .i64 0, .int .i64 0, .int .i64 0, .slice none 0 0] 44))
  have R4 := hide (al2_1 w (.cells #[.int .i64 a, .int .i64 b, .int .i64 c, .int .i64 d] 42) (.cells #[.int .i64 0, .int .i64 0, .int .i64 0, .int .i64 0, .slice none 0 0] 44))
  have HB := hide (al2_below w (.cells #[.int .i64 a, .int .i64 b, .int .i64 c, .int .i64 d] 42) (.cells #[.int .i64 0, .int .i64 0, .int .i64 0, .int .i64 0, .slice none 0 0] 44))
  obtain ⟨b4, hb4⟩ : ∃ b, Hid (b = w.heap.size + 1) := ⟨_, rfl⟩
  obtain ⟨b2, hb2⟩ : ∃ b, Hid (b = w.heap.size) := ⟨_, rfl⟩
  have lz : Hid (w.heap.size ≤ b4 ∧ b2 < b4) := by unfold Hid; rw [unhide hb4, unhide hb2]; omega
  rw [← unhide hb4] at R4
  rw [← unhide hb2] at R2
  rw [← unhide hb4, ← unhide hb2]
  generalize (w.alloc (.cells #[.int .i64 a, .int .i64 b, .int .i64 c, .int .i64 d] 42)).alloc (.cells #[.int .i64 0, .int .i64 0, .int .i64 0, .int .i64 0, .slice none 0 0] 44) = W at R2 R4 HB ⊢
  clear hb4 hb2
  obtain ⟨q0, q1, q2, q3⟩ := row4 (unhide R2)
  -- the box is looked at, and is one
  go_cut [16] (fun s u => s = .bool false ∧ Below W.heap.size W u)
  case first =>
    by_cases hz : a = 0 ∧ b = 0 ∧ c = 0 ∧ d = 0
    · obtain ⟨rfl, rfl, rfl, rfl⟩ := hz
      go_wp2_with fail
      go_meet
      exact ⟨rfl, Below.refl _ _⟩
    · have hbi := unhide hcon hz
      rw [hbi] at EB
      clear hbi
      go_wp2_with fail
      go_fit (unhide EB _)
      rintro r w1 ⟨rfl, hb⟩
      clear q0 q1 q2 q3
      go_wp2_with fail
      go_meet
      exact ⟨rfl, hb⟩
  case rest =>
  clear q0 q1 q2 q3
  obtain ⟨rfl, hb⟩ := hcut
  replace R2 := hide (row_next hb (unhide R2))
  replace R4 := hide (row_next hb (unhide R4))
  replace HB := hide (below_two (unhide HB) hb)
  clear hb hcon EB
  obtain ⟨q0, q1, q2, q3⟩ := row4 (unhide R2)
  go_wp2_with fail
  go_fit (unhide EN _)
  rintro r w2 ⟨g, rfl, hg, own, hb⟩
  have BY := hide (ByS.begin (unhide R2) (unhide R4) (unhide HB) own hb)
  have lo := hide (show w.heap.size ≤ g ∧ b2 < g ∧ b4 < g ∧ g < w2.heap.size by
    have := heap_lt (unhide R2); have := heap_lt (unhide R4); have := (unhide HB).size
    obtain ⟨xs, o, _⟩ := own
    have := (o.lt g rfl).2; omega)
  clear q0 q1 q2 q3 hg own hb R2 R4 HB EN
  go_upto_region 4 with fail
  generalize w2.alloc (.cells #[.int .i64 a, .int .i64 b, .int .i64 c, .int .i64 d, .slice (some ⟨g, 0, none⟩) N N] 44) = W3 at BY ⊢
  generalize w2.heap.size = b6 at BY lo ⊢
  obtain ⟨s0, s1, s2, s3, s4⟩ := row5m (unhide BY).row
  by_cases hmN : N < m
  · obtain rfl := unhide hno (fun h => by have := ((unhide hw).1 h).1; omega)
    have hmi : (N : Int) < (m : Int) := by omega
    obtain ⟨e0, e1, e2, e3, e4⟩ := row5m (unhide BY).zero
    obtain ⟨f0, f1, f2, f3, f4⟩ := frozen5 (unhide BY).zero
    go_wp2_with fail
    refine bodyPost_ret (v := .tuple #[.agg #[.int .i64 0, .int .i64 0, .int .i64 0, .int .i64 0, .slice none 0 0], .bool false]) (by simp [results, Try.results26, go_sem, e0, e1, e2, e3, e4]) rfl ?_
    exact by_none (below_put5 (unhide BY).bel (unhide lz).1 _ _ _ _ _)
  have hmi : ¬ (N : Int) < (m : Int) := by omega
  go_upto_region 7 with fail
  clear s0 s1 s2 s3 s4 hmi
  go_loopw [29] (fun i u => ∃ k : Nat, k ≤ m ∧ i = .int .i64 (k : Int) ∧ Hid (∀ j, j < k → wiB a b c d (G j) = true) ∧ Hid (ByS w u b2 b4 b6 g a b c d N (paintN a b c G k))) (fun i _ => m - (intOf i).toNat)
  case atStart => exact ⟨0, Nat.zero_le _, rfl, fun j hj => absurd hj (by omega), (unhide BY).congr (fun i _ => by simp [paintN])⟩
  case round =>
    clear BY
    obtain ⟨k, hk, rfl, HK, BY⟩ := hrel
    by_cases hlt : k < m
    · have HP := (unhide P k hlt).next (unhide BY).bel
      obtain ⟨r, hr⟩ : ∃ r, Hid (G k = r) := ⟨_, rfl⟩
      rw [unhide hr] at HP
      have hpn : Hid (∀ i, paintN a b c G (k + 1) i = if hitP a b c r i then r.y1 else paintN a b c G k i) := fun i => by rw [paintN, unhide hr]
      obtain ⟨ry, rx0, rx1, rv⟩ := r
      obtain ⟨s, o, rfl, g0, g1, g2, g3⟩ := HP
      dsimp only at g0 g1 g2 g3
      have hki : (k : Int) < (m : Int) := by omega
      go_upto_region 9 with fail
      have R8 := hide (new_row wr (.cells #[.int .i64 ry, .int .i64 rx0, .int .i64 rx1, .int .i64 rv] 57))
      have hb := al1_below wr (.cells #[.int .i64 ry, .int .i64 rx0, .int .i64 rx1, .int .i64 rv] 57)
      have lg : Hid (g < wr.heap.size) := by obtain ⟨xs, o, _⟩ := (unhide BY).own; exact (o.lt g rfl).2
      replace BY := hide ((unhide BY).next hb)
      clear hb g0 g1 g2 g3
      generalize wr.alloc (.cells #[.int .i64 ry, .int .i64 rx0, .int .i64 rx1, .int .i64 rv] 57) = U at R8 BY ⊢
      generalize wr.heap.size = b8 at R8 lg ⊢
      have EW := hide (implRunWithin_any a b c d ry rx0 rx1 rv)
      obtain ⟨wi, hwi⟩ : ∃ wi, Hid (wiB a b c d ⟨ry, rx0, rx1, rv⟩ = wi) := ⟨_, rfl⟩
      rw [unhide hwi] at EW
      obtain ⟨q0, q1, q2, q3⟩ := row4 (unhide BY).box
      obtain ⟨p0, p1, p2, p3⟩ := row4 (unhide R8)
      go_wp2_with fail
      go_fit (unhide EW _)
      rintro r w4 ⟨rfl, hb⟩
      replace R8 := hide (row_next hb (unhide R8))
      replace BY := hide ((unhide BY).next hb)
      clear hb q0 q1 q2 q3 p0 p1 p2 p3 EW
      cases wi with
      | false =>
        obtain rfl := unhide hno (fun h => by have := ((unhide hw).1 h).2.1 k hlt; rw [unhide hr, unhide hwi] at this; cases this)
        obtain ⟨e0, e1, e2, e3, e4⟩ := row5m (unhide BY).zero
        obtain ⟨f0, f1, f2, f3, f4⟩ := frozen5 (unhide BY).zero
        go_wp2_with fail
        refine bodyPost_ret (v := .tuple #[.agg #[.int .i64 0, .int .i64 0, .int .i64 0, .int .i64 0, .slice none 0 0], .bool false]) (by simp [results, Try.results26, go_sem, e0, e1, e2, e3, e4]) rfl ?_
        exact by_none (below_put5 (unhide BY).bel (unhide lz).1 _ _ _ _ _)
      | true =>
        have hbi := unhide hbox _ (unhide hwi)
        have hwf := wi_iff.1 (unhide hwi)
        dsimp only at hwf
        obtain ⟨P0, hP0⟩ : ∃ P0 : Nat, (placeI a b c rx0 ry).toNat = P0 := ⟨_, rfl⟩
        obtain ⟨T0, hT0⟩ : ∃ T0 : Nat, (rx1 - rx0).toNat = T0 := ⟨_, rfl⟩
        have hst := stretch (x0 := rx0) (x1 := rx1) (y := ry) hbi (by omega) (by omega)
        have hpn2 : Hid (∀ i, (if P0 ≤ i ∧ i < P0 + T0 then rv else paintN a b c G k i) = paintN a b c G (k + 1) i) := fun i => by
          rw [unhide hpn i]
          have e1 : hitP a b c ⟨ry, rx0, rx1, rv⟩ i ↔ P0 ≤ i ∧ i < P0 + T0 := by
            unfold hitP; dsimp only; rw [hst.2.1]; omega
          simp only [e1]
        have ED := hide (fun u own => implDrawRun_any a b c d ry rx0 rx1 rv N g P0 T0 hbi (by omega) (by omega) (unhide hN) hP0 hT0 (paintN a b c G k) u own)
        have HK2 : Hid (∀ j, j < k + 1 → wiB a b c d (G j) = true) := fun j hj => by
          by_cases e : j = k
          · rw [e, unhide hr]; exact unhide hwi
          · exact unhide HK j (by omega)
        clear hst hwf hbi hP0 hT0 hpn
        obtain ⟨s0, s1, s2, s3, s4⟩ := row5m (unhide BY).row
        obtain ⟨p0, p1, p2, p3⟩ := row4 (unhide R8)
        go_wp2_with fail
        go_fit (unhide ED _ (unhide BY).own)
        rintro r w5 ⟨rfl, hg5, own5⟩
        replace BY := hide (((unhide BY).drawn hg5 own5 (unhide lo).1 (unhide lo).2.1 (unhide lo).2.2.1 (unhide lo).2.2.2).congr (fun i _ => unhide hpn2 i))
        clear hg5 own5 s0 s1 s2 s3 s4 p0 p1 p2 p3 ED R8
        go_wp2_with fail
        go_roundw
        case rel => exact ⟨k + 1, by omega, by go_num, HK2, BY⟩
        case measure => simp [intOf]; omega
    · obtain rfl : k = m := by omega
      have hki : ¬ (k : Int) < (k : Int) := by omega
      have hF : Hid (∀ i, inB (paintN a b c G k i) 0 15 = true) := fun i => paint_bd i k (fun j hj => by have := wi_iff.1 (unhide HK j hj); omega)
      have ER := hide (fun u (h : ByS w u b2 b4 b6 g a b c d N (paintN a b c G k)) => implRunsOf_any a b c d (paintN a b c G k) (some ⟨g, 0, none⟩) N N (by omega) (Nat.le_refl _) u h.ints)
      rw [unhide hMk _ (unhide hF)] at ER
      have hXi : Hid (X = true ↔ (runsL a b c d (paintN a b c G k)).length = k ∧ ∀ i, i < (runsL a b c d (paintN a b c G k)).length → listB (runsL a b c d (paintN a b c G k)) i = G i) := by
        have h1 : X = true ↔ ByOk a b c d k G := ⟨fun h => Classical.byContradiction (fun hn => by rw [unhide hno hn] at h; cases h), unhide hyes⟩
        unfold Hid
        rw [h1, unhide hw]
        constructor
        · rintro ⟨_, _, h3, h4⟩
          exact ⟨h3, fun i hi => h4 i (by omega)⟩
        · rintro ⟨h3, h4⟩
          exact ⟨by omega, unhide HK, h3, fun i hi => h4 i (by omega)⟩
      have hll : Hid ((runsL a b c d (paintN a b c G k)).length ≤ 3600) := by
        unfold Hid; have := runsL_len (a := a) (b := b) (c := c) (d := d) (paintN a b c G k); rw [unhide hN] at this; omega
      generalize runsL a b c d (paintN a b c G k) = L at ER hXi hll
      clear hyes hno hw hMk hF
      obtain ⟨s0, s1, s2, s3, s4⟩ := row5m (unhide BY).row
      go_wp2_with fail
      go_fit (unhide ER _ (unhide BY))
      intro r w4 hres
      obtain ⟨la, lc, rfl, HL, hb⟩ := hres.opn
      clear hres
      replace BY := hide ((unhide BY).next hb)
      clear hb s0 s1 s2 s3 s4 ER
      have EE := hide (implEqualRuns_any (listB L) G la ao L.length lc k cap (by have := unhide hll; omega) hm X (unhide hXi) w4 HL (fun i hi => (unhide P i hi).next (unhide BY).bel))
      go_wp2_with fail
      go_fit (unhide EE)
      rintro r w5 ⟨rfl, hb⟩
      replace BY := hide ((unhide BY).next hb)
      clear hb EE HL
      obtain ⟨e0, e1, e2, e3, e4⟩ := row5m (unhide BY).zero
      obtain ⟨f0, f1, f2, f3, f4⟩ := frozen5 (unhide BY).zero
      cases X with
      | false =>
        go_wp2_with fail
        refine bodyPost_ret (v := .tuple #[.agg #[.int .i64 0, .int .i64 0, .int .i64 0, .int .i64 0, .slice none 0 0], .bool false]) (by simp [results, Try.results26, go_sem, e0, e1, e2, e3, e4]) rfl ?_
        exact by_none (below_put5 (unhide BY).bel (unhide lz).1 _ _ _ _ _)
      | true =>
        obtain ⟨s0, s1, s2, s3, s4⟩ := row5m (unhide BY).row
        go_wp2_with fail
        refine bodyPost_ret (v := .tuple #[.agg #[.int .i64 a, .int .i64 b, .int .i64 c, .int .i64 d, .slice (some ⟨g, 0, none⟩) N N], .bool true]) (by simp [results, Try.results26, go_sem, e0, e1, e2, e3, e4]) rfl ?_
        exact by_done (unhide BY) (unhide lo).1 (unhide lz).1 (by have := unhide lo; omega)
end Go.Proofs.Ytmomgbnhildpdab

/-
  FnMasks, at the program's own contracts.
-/
namespace Go.Proofs.Ytmomgbnhildpdab
open Go.RowKit

theorem fnMasks_walk (a0 : Option Addr) (len0 cap0 : Nat) (z0 : List Int) (w : World) (w0 : IsRow .u8 w a0 len0 cap0 z0) :
    Calls Try.prog 6 #[.slice a0 len0 cap0] w fun e w' => e = .returned (.bool true) ∧ Below w.heap.size w w' :=
  fnMasks_of implRunsOf_any implMaskBy_any implMaskOk_any implBitsAt_any (drawMasks_of l11Mask_any) drawMaskBy_any a0 len0 cap0 z0 w w0
end Go.Proofs.Ytmomgbnhildpdab
