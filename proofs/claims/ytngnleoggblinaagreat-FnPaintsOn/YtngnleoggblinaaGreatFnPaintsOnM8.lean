/-
  MaskI · MaskJ · WindA · WindN · SurfO · PaintOnX: texts of one claim, in one.
-/
import Derived.Test.YtngnleoggblinaaGreatFnPaintsOnM2
import Derived.Test.YtngnleoggblinaaGreatFnPaintsOnM6
import Derived.Test.YtngnleoggblinaaGreatFnPaintsOnM1
import Derived.Test.YtngnleoggblinaaGreatFnPaintsOnM4
import Derived.Test.YtngnleoggblinaaGreatFnPaintsOnM7
import Derived.Test.YtngnleoggblinaaGreatFnPaintsOnM5
import Derived.Test.YtngnleoggblinaaGreatFnPaintsOnM3

/-
  The program's masks: boxes that they may have, right ones, rows, the bits of a square.
-/
namespace Go.Proofs.YtngnleoggblinaaGreat
open Go.RowKit
set_option linter.unusedVariables false

theorem eqlBox (a b c d e f g h : Int) (w : World) : (Op.equalIn 10000 29 (.agg #[.int .i64 a, .int .i64 b, .int .i64 c, .int .i64 d]) (.agg #[.int .i64 e, .int .i64 f, .int .i64 g, .int .i64 h])).run Tryz.prog w = .ok (decide (a = e) && (decide (b = f) && (decide (c = g) && decide (d = h)))) w := by
  have u3 := Tryz.underlying3
  have a3 := Tryz.isAgg3
  have z3 := Tryz.sizeOf3
  have hS : Tryz.prog.underlying 29 = some (.struct (Tryz.prog.fieldsOf 29)) := by kernel_rfl
  rw [show (10000 : Nat) = 9999 + 1 from rfl, run_equalIn_agg w 9999 29 _ _ hS (by kernel_rfl)]
  simp only [Program.fieldsOf, Tryz.underlying29]
  go_simp
  by_cases h1 : a = e
  · by_cases h2 : b = f
    · by_cases h3 : c = g
      · by_cases h4 : d = h <;> simp [h1, h2, h3, h4]
      · simp [h1, h2, h3]
    · simp [h1, h2]
  · simp [h1]

/-- What the program asks of a box, one behind the other. -/
theorem boxIn_ways (a b c d : Int) : boxInB a b c d = (decide (clampI a (-2000) 2000 = a) && (decide (clampI b (-2000) 2000 = b) && (decide (clampI c (-2000) 2000 = c) && decide (clampI d (-2000) 2000 = d))) && (!emptyB a b c d && (decide (c - a ≤ 60) && decide (d - b ≤ 60)))) := by
  have e : ∀ x : Int, clampI x (-2000) 2000 = x ↔ -2000 ≤ x ∧ x ≤ 2000 := fun x => by unfold clampI; split <;> (try split) <;> omega
  rw [Bool.eq_iff_iff, boxIn_iff]
  simp only [Bool.and_eq_true, decide_eq_true_eq, Bool.not_eq_true', e, emptyB, Bool.or_eq_false_iff, decide_eq_false_iff_not]
  omega

set_option maxHeartbeats 4000000 in
set_option maxRecDepth 100000 in
theorem implMaskBoxOk_any (a b c d : Int) (w : World) :
    Calls Tryz.prog 62 #[.agg #[.int .i64 a, .int .i64 b, .int .i64 c, .int .i64 d]] w fun r w' => r = .returned (.bool (boxInB a b c d)) ∧ Below w.heap.size w w' := by
  have HW := hide (implBoxWithin_any a b c d 2000 (by omega))
  have HE := hide (implEmpty_any a b c d)
  have H := hide (boxIn_ways a b c d)
  have hw : Hid (clampI a (-2000) 2000 = a → clampI b (-2000) 2000 = b → clampI c (-2000) 2000 = c → clampI d (-2000) 2000 = d → IntKind.i64.wrap (c - a) = c - a ∧ IntKind.i64.wrap (d - b) = d - b) := fun h1 h2 h3 h4 => by
    have e : ∀ x : Int, clampI x (-2000) 2000 = x → -2000 ≤ x ∧ x ≤ 2000 := fun x => by unfold clampI; split <;> (try split) <;> omega
    have := e _ h1; have := e _ h2; have := e _ h3; have := e _ h4
    exact ⟨IntWalk.i64_in _ (by omega), IntWalk.i64_in _ (by omega)⟩
  generalize clampI a (-2000) 2000 = o0 at HW H hw
  generalize clampI b (-2000) 2000 = o1 at HW H hw
  generalize clampI c (-2000) 2000 = o2 at HW H hw
  generalize clampI d (-2000) 2000 = o3 at HW H hw
  generalize emptyB a b c d = E at HE H
  generalize boxInB a b c d = X at H ⊢
  go_enter Tryz.func62, Tryz.ntmps62
  go_upto_region 1 with fail
  have R := hide (new_row w (.cells #[.int .i64 a, .int .i64 b, .int .i64 c, .int .i64 d] 29))
  have HB := hide (al1_below w (.cells #[.int .i64 a, .int .i64 b, .int .i64 c, .int .i64 d] 29))
  obtain ⟨b1, hb1⟩ : ∃ b, Hid (b = w.heap.size) := ⟨_, rfl⟩
  rw [← unhide hb1] at R
  rw [← unhide hb1]
  generalize w.alloc (.cells #[.int .i64 a, .int .i64 b, .int .i64 c, .int .i64 d] 29) = W at R HB ⊢
  obtain ⟨I, F, hI, F1, F2⟩ := kept_worlds W
  have q0 : ∀ i, (F i).cell? ⟨b1, 0, none⟩ = some (.int .i64 a) := fun i => (row4 (row_next (F2 i) (unhide R))).1
  have q1 : ∀ i, (F i).cell? ⟨b1, 1, none⟩ = some (.int .i64 b) := fun i => (row4 (row_next (F2 i) (unhide R))).2.1
  have q2 : ∀ i, (F i).cell? ⟨b1, 2, none⟩ = some (.int .i64 c) := fun i => (row4 (row_next (F2 i) (unhide R))).2.2.1
  have q3 : ∀ i, (F i).cell? ⟨b1, 3, none⟩ = some (.int .i64 d) := fun i => (row4 (row_next (F2 i) (unhide R))).2.2.2
  replace F1 := hide F1
  replace F2 := hide F2
  by_cases hq : o0 = a ∧ o1 = b ∧ o2 = c ∧ o3 = d
  · obtain ⟨rfl, rfl, rfl, rfl⟩ := hq
    obtain ⟨w1, w2⟩ := unhide hw rfl rfl rfl rfl
    have eq1 : ∀ u, (Op.equalIn 10000 29 (.agg #[.int .i64 o0, .int .i64 o1, .int .i64 o2, .int .i64 o3]) (.agg #[.int .i64 o0, .int .i64 o1, .int .i64 o2, .int .i64 o3])).run Tryz.prog u = .ok true u := fun u => by rw [eqlBox]; simp
    rw [decide_eq_true rfl, decide_eq_true rfl, decide_eq_true rfl, decide_eq_true rfl] at H
    clear hw
    cases E with
    | true =>
      replace H : Hid (false = X) := (unhide H).symm
      refine wp_region_quiet_in (unhide F1) (by kernel_rfl) (by kernel_rfl) ?_
      repeat (go_big_quiet_step (first | with_reducible exact quiet_in (unhide F1) (unhide F2) (unhide HW _) | with_reducible exact quiet_in (unhide F1) (unhide F2) (unhide HE _)))
      refine wpQuiet_nil ?_
      rintro _ ⟨i, rfl⟩
      have hF := unhide F2 i
      go_wp2_with fail
      go_ret
      exact ⟨ret_bool (unhide H), below_two (unhide HB) hF⟩
    | false =>
      by_cases h1 : o2 - o0 ≤ 60
      · have d1 : decide (o2 - o0 ≤ 60) = true := decide_eq_true h1
        have hX : Hid (decide (o3 - o1 ≤ 60) = X) := by have := unhide H; rw [d1] at this; exact this.symm
        refine wp_region_quiet_in (unhide F1) (by kernel_rfl) (by kernel_rfl) ?_
        repeat (go_big_quiet_step (first | with_reducible exact quiet_in (unhide F1) (unhide F2) (unhide HW _) | with_reducible exact quiet_in (unhide F1) (unhide F2) (unhide HE _)))
        refine wpQuiet_nil ?_
        rintro _ ⟨i, rfl⟩
        have hF := unhide F2 i
        go_wp2_with fail
        go_ret
        exact ⟨ret_bool (unhide hX), below_two (unhide HB) hF⟩
      · have d1 : decide (o2 - o0 ≤ 60) = false := decide_eq_false h1
        have hX : Hid (false = X) := by have := unhide H; rw [d1] at this; exact this.symm
        refine wp_region_quiet_in (unhide F1) (by kernel_rfl) (by kernel_rfl) ?_
        repeat (go_big_quiet_step (first | with_reducible exact quiet_in (unhide F1) (unhide F2) (unhide HW _) | with_reducible exact quiet_in (unhide F1) (unhide F2) (unhide HE _)))
        refine wpQuiet_nil ?_
        rintro _ ⟨i, rfl⟩
        have hF := unhide F2 i
        go_wp2_with fail
        go_ret
        exact ⟨ret_bool (unhide hX), below_two (unhide HB) hF⟩
  · have hf : (decide (o0 = a) && (decide (o1 = b) && (decide (o2 = c) && decide (o3 = d)))) = false := by
      rw [Bool.eq_false_iff]; intro h; simp only [Bool.and_eq_true, decide_eq_true_eq] at h; exact hq h
    have hX : Hid (false = X) := by have := unhide H; rw [hf] at this; exact this.symm
    have eq1 : ∀ u, (Op.equalIn 10000 29 (.agg #[.int .i64 o0, .int .i64 o1, .int .i64 o2, .int .i64 o3]) (.agg #[.int .i64 a, .int .i64 b, .int .i64 c, .int .i64 d])).run Tryz.prog u = .ok false u := fun u => by rw [eqlBox, hf]
    clear hw hf hq
    refine wp_region_quiet_in (unhide F1) (by kernel_rfl) (by kernel_rfl) ?_
    repeat (go_big_quiet_step (first | with_reducible exact quiet_in (unhide F1) (unhide F2) (unhide HW _) | with_reducible exact quiet_in (unhide F1) (unhide F2) (unhide HE _)))
    refine wpQuiet_nil ?_
    rintro _ ⟨i, rfl⟩
    have hF := unhide F2 i
    go_wp2_with fail
    go_ret
    exact ⟨ret_bool (unhide hX), below_two (unhide HB) hF⟩

set_option maxHeartbeats 1000000 in
theorem implSquaresIn_any (a b c d : Int) (N : Nat) (h1 : IntKind.i64.wrap (c - a) = c - a) (h2 : IntKind.i64.wrap (d - b) = d - b) (h3 : (N : Int) = (c - a) * (d - b)) (hN : N ≤ 3600) (w : World) :
    Calls Tryz.prog 63 #[.agg #[.int .i64 a, .int .i64 b, .int .i64 c, .int .i64 d]] w fun r w' => r = .returned (.int .i64 N) ∧ Below w.heap.size w w' := by
  have v3 : IntKind.i64.wrap ((c - a) * (d - b)) = (N : Int) := by rw [← h3]; exact IntWalk.i64_in _ (by omega)
  clear h3
  go_enter Tryz.func63, Tryz.ntmps63
  go_wp2_with fail
  go_ret
  exact ⟨rfl, al1_below _ _⟩

theorem mok_nobox {a b c d : Int} {n : Nat} {f : Nat → Int} (hb : boxInB a b c d = false) : MOk a b c d n f ↔ (a = 0 ∧ b = 0 ∧ c = 0 ∧ d = 0) ∧ n = 0 :=
  ⟨fun h => (by rcases h with ⟨h0, h⟩ | ⟨_, h, _⟩; exact ⟨h, h0⟩; rw [hb] at h; cases h), fun h => .inl ⟨h.2, h.1⟩⟩
theorem mok_box {a b c d : Int} {n : Nat} {f : Nat → Int} (hb : boxInB a b c d = true) : MOk a b c d n f ↔ n = sqN a b c d ∧ ∀ i, i < n → inB (f i) 0 15 = true := by
  have h0 := (sqN_le hb).2
  refine ⟨fun h => ?_, fun h => .inr ⟨by omega, hb, h⟩⟩
  rcases h with ⟨_, rfl, rfl, rfl, rfl⟩ | ⟨_, _, h⟩
  · exact absurd hb (by decide)
  · exact h

attribute [local go_sem ↓] eqZero_yes eqZero_no in
set_option maxHeartbeats 4000000 in
set_option maxRecDepth 100000 in
theorem implMaskOk_any (a b c d : Int) (f : Nat → Int) (ao : Option Addr) (n cp : Nat) (hn : n ≤ 1048576) (w : World) (P : ∀ i, i < n → IntAt w ao i (f i)) :
    Calls Tryz.prog 25 #[.agg #[.int .i64 a, .int .i64 b, .int .i64 c, .int .i64 d, .slice ao n cp]] w fun r w' => r = .returned (.bool (maskOkB a b c d n f)) ∧ Below w.heap.size w w' := by
  have EB := hide (implMaskBoxOk_any a b c d)
  replace P := hide P
  have hyes : Hid (MOk a b c d n f → maskOkB a b c d n f = true) := fun h => maskOk_iff.2 h
  have hno : Hid (¬ MOk a b c d n f → maskOkB a b c d n f = false) := fun h => maskOk_no h
  have hmo0 : Hid (boxInB a b c d = false → (MOk a b c d n f ↔ (a = 0 ∧ b = 0 ∧ c = 0 ∧ d = 0) ∧ n = 0)) := fun h => mok_nobox h
  have hmo1 : Hid (boxInB a b c d = true → (MOk a b c d n f ↔ n = sqN a b c d ∧ ∀ i, i < n → inB (f i) 0 15 = true)) := fun h => mok_box h
  have hsq : Hid (boxInB a b c d = true → ((sqN a b c d : Nat) : Int) = (c - a) * (d - b) ∧ IntKind.i64.wrap (c - a) = c - a ∧ IntKind.i64.wrap (d - b) = d - b ∧ sqN a b c d ≤ 3600) := fun h => by
    have e := sqN_int h
    have e2 := (sqN_le h).1
    obtain ⟨_, _, _, _, _, _, _, _⟩ := boxIn_iff.1 h
    exact ⟨e, IntWalk.i64_in _ (by omega), IntWalk.i64_in _ (by omega), e2⟩
  generalize maskOkB a b c d n f = X at hyes hno ⊢
  generalize MOk a b c d n f = M at hyes hno hmo0 hmo1
  generalize sqN a b c d = sq at hmo1 hsq
  generalize boxInB a b c d = bi at EB hmo0 hmo1 hsq
  go_enter Tryz.func25, Tryz.ntmps25
  go_upto_region 1 with fail
  have R := hide (new_row w (.cells #[.int .i64 a, .int .i64 b, .int .i64 c, .int .i64 d, .slice ao n cp] 32))
  have HB := hide (al1_below w (.cells #[.int .i64 a, .int .i64 b, .int .i64 c, .int .i64 d, .slice ao n cp] 32))
  obtain ⟨b1, hb1⟩ : ∃ b, Hid (b = w.heap.size) := ⟨_, rfl⟩
  rw [← unhide hb1] at R
  rw [← unhide hb1]
  generalize w.alloc (.cells #[.int .i64 a, .int .i64 b, .int .i64 c, .int .i64 d, .slice ao n cp] 32) = W at R HB ⊢
  obtain ⟨r0, r1, r2, r3, r4⟩ := row5m (unhide R)
  go_wp2_with fail
  go_fit (unhide EB _)
  rintro r u1 ⟨rfl, hb⟩
  replace R := hide (row_next hb (unhide R))
  replace HB := hide (below_two (unhide HB) hb)
  clear hb r0 r1 r2 r3 r4
  obtain ⟨r0, r1, r2, r3, r4⟩ := row5m (unhide R)
  cases bi with
  | false =>
    have hM := hide (unhide hmo0 rfl)
    clear hmo0 hmo1 hsq
    by_cases hz : a = 0 ∧ b = 0 ∧ c = 0 ∧ d = 0
    · obtain ⟨rfl, rfl, rfl, rfl⟩ := hz
      by_cases h0 : n = 0
      · subst h0
        have hX := hide (unhide hyes ((unhide hM).2 ⟨⟨rfl, rfl, rfl, rfl⟩, rfl⟩))
        go_wp2_with fail
        go_ret
        exact ⟨ret_bool (unhide hX).symm, unhide HB⟩
      · have hX := hide (unhide hno (fun h => h0 ((unhide hM).1 h).2))
        have h0i : ((n : Int) == 0) = false := beq_eq_false_iff_ne.2 (by omega)
        go_wp2_with fail
        go_ret
        exact ⟨ret_bool (unhide hX).symm, unhide HB⟩
    · have hX := hide (unhide hno (fun h => hz ((unhide hM).1 h).1))
      go_wp2_with fail
      go_ret
      exact ⟨ret_bool (unhide hX).symm, unhide HB⟩
  | true =>
    have hM := hide (unhide hmo1 rfl)
    obtain ⟨s1, s2, s3, s4⟩ := unhide hsq rfl
    have ES := hide (implSquaresIn_any a b c d sq s2 s3 s1 s4)
    clear hmo0 hmo1 hsq s1 s2 s3 s4
    have hqb : Hid (((n : Int) == (sq : Int)) = decide (n = sq)) := by
      unfold Hid; rw [Bool.eq_iff_iff, beq_iff_eq, decide_eq_true_eq]; omega
    go_upto_region 3 with fail
    clear r0 r1 r2 r3 r4
    go_cut [25] (fun s u => s = .bool (!decide (n = sq)) ∧ Below u1.heap.size u1 u)
    case first =>
      obtain ⟨I, F, hI, F1, F2⟩ := kept_worlds u1
      have q0 : ∀ i, (F i).cell? ⟨b1, 0, none⟩ = some (.int .i64 a) := fun i => (row5m (row_next (F2 i) (unhide R))).1
      have q1 : ∀ i, (F i).cell? ⟨b1, 1, none⟩ = some (.int .i64 b) := fun i => (row5m (row_next (F2 i) (unhide R))).2.1
      have q2 : ∀ i, (F i).cell? ⟨b1, 2, none⟩ = some (.int .i64 c) := fun i => (row5m (row_next (F2 i) (unhide R))).2.2.1
      have q3 : ∀ i, (F i).cell? ⟨b1, 3, none⟩ = some (.int .i64 d) := fun i => (row5m (row_next (F2 i) (unhide R))).2.2.2.1
      have q4 : ∀ i, (F i).cell? ⟨b1, 4, none⟩ = some (.slice ao n cp) := fun i => (row5m (row_next (F2 i) (unhide R))).2.2.2.2
      replace F1 := hide F1
      replace F2 := hide F2
      refine wp_region_quiet_in (unhide F1) (by kernel_rfl) (by kernel_rfl) ?_
      repeat (go_big_quiet_step (first | with_reducible exact quiet_in (unhide F1) (unhide F2) (unhide ES _)))
      refine wpQuiet_nil ?_
      rintro _ ⟨i, rfl⟩
      have hF := unhide F2 i
      clear q0 q1 q2 q3 q4
      go_wp2_with fail
      go_meet
      refine ⟨?_, hF⟩
      rw [← unhide hqb]; rfl
    case rest =>
      obtain ⟨rfl, hb⟩ := hcut
      replace R := hide (row_next hb (unhide R))
      replace HB := hide (below_two (unhide HB) hb)
      clear hb hqb ES
      by_cases hq : n = sq
      · have hq1 := hide hq
        rw [decide_eq_true hq]
        clear hq
        obtain ⟨r0, r1, r2, r3, r4⟩ := row5m (unhide R)
        go_upto_region 6 with fail
        clear r0 r1 r2 r3 r4
        go_loopw [29] (fun i u => ∃ k : Nat, k ≤ n ∧ i = .int .i64 k ∧ Hid (∀ j, j < k → inB (f j) 0 15 = true) ∧ Hid (Below w.heap.size w u)) (fun i _ => n - (intOf i).toNat)
        case atStart => exact ⟨0, Nat.zero_le _, rfl, fun j hj => absurd hj (by omega), HB⟩
        case round =>
          clear HB R
          obtain ⟨k, hk, rfl, HK, HB⟩ := hrel
          by_cases hlt : k < n
          · obtain ⟨s0, o0, rfl, g0⟩ := (unhide P k hlt).next (unhide HB)
            obtain ⟨z, hz⟩ : ∃ z, Hid (f k = z) := ⟨_, rfl⟩
            rw [unhide hz] at g0
            have hki : (k : Int) < (n : Int) := by omega
            by_cases hz0 : z < 0
            · have hX := hide (unhide hno (fun h => by have := ((unhide hM).1 h).2 k hlt; rw [unhide hz, inB_true] at this; omega))
              go_wp2_with fail
              go_ret
              exact ⟨ret_bool (unhide hX).symm, unhide HB⟩
            · by_cases hz1 : 15 < z
              · have hX := hide (unhide hno (fun h => by have := ((unhide hM).1 h).2 k hlt; rw [unhide hz, inB_true] at this; omega))
                go_wp2_with fail
                go_ret
                exact ⟨ret_bool (unhide hX).symm, unhide HB⟩
              · have HK2 : Hid (∀ j, j < k + 1 → inB (f j) 0 15 = true) := bits_more (unhide HK) (by rw [unhide hz, inB_true]; omega)
                go_wp2_with fail
                go_roundw
                case rel => exact ⟨k + 1, by omega, by go_num, HK2, HB⟩
                case measure => simp [intOf]; omega
          · have hke : k = n := by omega
            subst hke
            have hki : ¬ (k : Int) < (k : Int) := by omega
            have hX := hide (unhide hyes ((unhide hM).2 ⟨unhide hq1, unhide HK⟩))
            go_wp2_with fail
            go_ret
            exact ⟨ret_bool (unhide hX).symm, unhide HB⟩
      · have hX := hide (unhide hno (fun h => hq ((unhide hM).1 h).1))
        rw [decide_eq_false hq]
        go_wp2_with fail
        go_ret
        exact ⟨ret_bool (unhide hX).symm, unhide HB⟩
end Go.Proofs.YtngnleoggblinaaGreat

/-
  The program's rows of a mask, the bits of a square, a blank mask.
-/
namespace Go.Proofs.YtngnleoggblinaaGreat
open Go.RowKit
set_option linter.unusedVariables false

/-- Where a stretch of a row lies among the bits. -/
theorem stretch {a b c d y x0 x1 : Int} (hb : boxInB a b c d = true) (hy : b ≤ y ∧ y < d) (hx : a ≤ x0 ∧ x0 < x1 ∧ x1 ≤ c) :
    0 ≤ placeI a b c x0 y ∧ placeI a b c x1 y = placeI a b c x0 y + (x1 - x0) ∧ placeI a b c x0 y + (x1 - x0) ≤ ((sqN a b c d : Nat) : Int) := by
  have hin : ∀ x, a ≤ x → x < c → inBoxB a b c d x y = true := fun x h1 h2 => by
    unfold inBoxB
    rw [decide_eq_true (by omega), decide_eq_true (by omega), decide_eq_true (by omega), decide_eq_true (by omega)]; rfl
  have q1 := place_bd hb (hin x0 (by omega) (by omega))
  have q2 := place_bd hb (hin (x1 - 1) (by omega) (by omega))
  have e : ∀ x, placeI a b c x y = placeI a b c x0 y + (x - x0) := fun x => by unfold placeI; omega
  have e2 := e (x1 - 1)
  exact ⟨q1.1, e x1, by omega⟩

set_option maxHeartbeats 4000000 in
set_option maxRecDepth 100000 in
theorem implRowOf_any (a b c d y x0 x1 : Int) (s o n cp : Nat) (hb : boxInB a b c d = true) (hy : b ≤ y ∧ y < d) (hx : a ≤ x0 ∧ x0 < x1 ∧ x1 ≤ c) (hn : sqN a b c d = n) (hc : n ≤ cp) (w : World) :
    Calls Tryz.prog 72 #[.agg #[.int .i64 a, .int .i64 b, .int .i64 c, .int .i64 d, .slice (some ⟨s, o, none⟩) n cp], .int .i64 y, .int .i64 x0, .int .i64 x1] w fun r w' => r = .returned (.slice (some ⟨s, o + (placeI a b c x0 y).toNat, none⟩) (x1 - x0).toNat (x1 - x0).toNat) ∧ Below w.heap.size w w' := by
  obtain ⟨p1, p2, p3⟩ := stretch hb hy hx
  rw [hn] at p3
  obtain ⟨z1, z2, z3, z4, z5, z6, z7, z8⟩ := boxIn_iff.1 hb
  have hn3 : n ≤ 3600 := by rw [← hn]; exact (sqN_le hb).1
  obtain ⟨M, hM⟩ : ∃ M, M = (y - b) * (c - a) := ⟨_, rfl⟩
  have e1 : placeI a b c x0 y = M + x0 - a := by unfold placeI; rw [hM]
  have e2 : placeI a b c x1 y = M + x1 - a := by unfold placeI; rw [hM]
  obtain ⟨p, hp⟩ : ∃ p : Nat, placeI a b c x0 y = (p : Int) := ⟨(placeI a b c x0 y).toNat, by omega⟩
  obtain ⟨l, hl⟩ : ∃ l : Nat, (x1 - x0) = (l : Int) := ⟨(x1 - x0).toNat, by omega⟩
  have hl2 : (x1 - x0).toNat = l := by omega
  have hp2 : (placeI a b c x0 y).toNat = p := by omega
  have hl0 : 0 < l := by omega
  have hpl : p + l ≤ n := by omega
  rw [hl2, hp2]
  have v1 : IntKind.i64.wrap (y - b) = y - b := IntWalk.i64_in _ (by omega)
  have v2 : IntKind.i64.wrap (c - a) = c - a := IntWalk.i64_in _ (by omega)
  have v3 : IntKind.i64.wrap ((y - b) * (c - a)) = M := by rw [← hM]; exact IntWalk.i64_in _ (by omega)
  have v4 : IntKind.i64.wrap (M + x0) = M + x0 := IntWalk.i64_in _ (by omega)
  have v5 : IntKind.i64.wrap (M + x1) = M + x1 := IntWalk.i64_in _ (by omega)
  have v6 : IntKind.i64.wrap (M + x0 - a) = (p : Int) := by rw [← e1, hp]; exact IntWalk.i64_in _ (by omega)
  obtain ⟨q, hq⟩ : ∃ q : Nat, q = p + l := ⟨_, rfl⟩
  have v7 : IntKind.i64.wrap (M + x1 - a) = (q : Int) := by rw [← e2, p2, hp, hl, ← Int.natCast_add, ← hq]; exact IntWalk.i64_in _ (by omega)
  have k1 : q ≤ cp := by omega
  have k2 : p ≤ q := by omega
  have k3 : Hid (q - p = l) := by unfold Hid; omega
  have k4 : 0 < q - p := by omega
  clear hq hpl hl0 hM hb hy hx hn hp hl hl2 hp2 p1 p2 p3 e1 e2 z1 z2 z3 z4 z5 z6 z7 z8
  go_enter Tryz.func72, Tryz.ntmps72
  go_wp2_with fail
  go_quiet (fail)
  go_wp2_with fail
  go_ret
  exact ⟨by rw [unhide k3]; rfl, below_drews (al1_below _ _) _⟩

set_option maxHeartbeats 4000000 in
set_option maxRecDepth 100000 in
theorem implBitsIn_any (a b c d : Int) (f : Nat → Int) (ao : Option Addr) (n cp : Nat) (hn : n ≤ 1048576) (hc : n ≤ cp) (x y : Int) (hM : maskOkB a b c d n f = true) (w : World) (P : ∀ i, i < n → IntAt w ao i (f i)) :
    Calls Tryz.prog 31 #[.agg #[.int .i64 a, .int .i64 b, .int .i64 c, .int .i64 d, .slice ao n cp], .int .i64 x, .int .i64 y] w fun r w' => r = .returned (.int .i64 (atI a b c d f x y)) ∧ Below w.heap.size w w' := by
  have EI := hide (implInBox_any a b c d x y)
  have hA : Hid (atI a b c d f x y = if inBoxB a b c d x y = true then f (placeI a b c x y).toNat else 0) := rfl
  have hin : Hid (inBoxB a b c d x y = true → boxInB a b c d = true ∧ sqN a b c d = n ∧ 0 ≤ placeI a b c x y ∧ placeI a b c x y < (n : Int) ∧ (a ≤ x ∧ x < c ∧ b ≤ y ∧ y < d)) := fun h => by
    have hi := h
    simp only [inBoxB, Bool.and_eq_true, decide_eq_true_eq] at hi
    rcases maskOk_iff.1 hM with ⟨_, rfl, rfl, rfl, rfl⟩ | ⟨_, h1, h2, _⟩
    · omega
    · obtain ⟨p1, p2⟩ := place_bd h1 h
      exact ⟨h1, h2.symm, p1, by omega, hi⟩
  replace P := hide P
  clear hM
  generalize inBoxB a b c d x y = ib at EI hA hin
  generalize atI a b c d f x y = Z at hA ⊢
  go_enter Tryz.func31, Tryz.ntmps31
  go_upto_region 1 with fail
  have R := hide (new_row w (.cells #[.int .i64 a, .int .i64 b, .int .i64 c, .int .i64 d, .slice ao n cp] 32))
  have HB := hide (al1_below w (.cells #[.int .i64 a, .int .i64 b, .int .i64 c, .int .i64 d, .slice ao n cp] 32))
  obtain ⟨b1, hb1⟩ : ∃ b, Hid (b = w.heap.size) := ⟨_, rfl⟩
  rw [← unhide hb1] at R
  rw [← unhide hb1]
  generalize w.alloc (.cells #[.int .i64 a, .int .i64 b, .int .i64 c, .int .i64 d, .slice ao n cp] 32) = W at R HB ⊢
  obtain ⟨r0, r1, r2, r3, r4⟩ := row5m (unhide R)
  go_wp2_with fail
  go_fit (unhide EI _)
  rintro r u2 ⟨rfl, hb⟩
  replace R := hide (row_next hb (unhide R))
  replace HB := hide (below_two (unhide HB) hb)
  clear hb r0 r1 r2 r3 r4
  obtain ⟨r0, r1, r2, r3, r4⟩ := row5m (unhide R)
  cases ib with
  | false =>
    have hV : Hid (Z = 0) := by unfold Hid; rw [unhide hA]; rfl
    go_wp2_with fail
    go_ret
    exact ⟨ret_i (unhide hV).symm, unhide HB⟩
  | true =>
    obtain ⟨i1, i2, i3, i4, i5⟩ := unhide hin (by trivial)
    have hV : Hid (Z = f (placeI a b c x y).toNat) := by unfold Hid; rw [unhide hA]; rfl
    obtain ⟨p, hp⟩ : ∃ p, (placeI a b c x y).toNat = p := ⟨_, rfl⟩
    have hpn : p < n := by omega
    obtain ⟨s, o, rfl, g0⟩ := unhide P p hpn
    have ER := hide (implRowOf_any a b c d y x (x + 1) s o n cp i1 (by omega) (by omega) i2 hc)
    rw [hp, show (x + 1 - x).toNat = 1 by omega] at ER
    rw [hp] at hV
    have v1 : IntKind.i64.wrap (x + 1) = x + 1 := IntWalk.i64_in _ (by have := boxIn_iff.1 i1; omega)
    clear i1 i2 i3 i4 i5 hp hin hA
    obtain ⟨z, hz⟩ : ∃ z, Hid (f p = z) := ⟨_, rfl⟩
    rw [unhide hz] at g0 hV
    replace g0 := hide g0
    go_wp2_with fail
    go_fit (unhide ER _)
    rintro r u3 ⟨rfl, hb⟩
    replace HB := hide (below_two (unhide HB) hb)
    have g1 := kc (unhide HB) (unhide g0)
    clear hb r0 r1 r2 r3 r4 R
    go_wp2_with fail
    go_ret
    exact ⟨ret_i (unhide hV).symm, unhide HB⟩

/-- A mask of its own, while it is filled: its bits lie in block g. -/
def Blank (w : World) (r : Ending) (w' : World) (a b c d : Int) (N : Nat) : Prop :=
  ∃ g, r = .returned (.agg #[.int .i64 a, .int .i64 b, .int .i64 c, .int .i64 d, .slice (some ⟨g, 0, none⟩) N N]) ∧ w.heap.size ≤ g ∧ (∃ xs, w'.ownsRow g 3 1 (.slice (some ⟨g, 0, none⟩) N N) N xs ∧ IxAt xs (fun _ => 0) N) ∧ Below w.heap.size w w'
theorem made_nil (N : Nat) : IxAt (madeCells (Value.int .i64 0).cells (N * 1)).toList (fun _ => 0) N := by
  intro j hj
  simp [madeCells, Value.cells, hj, Nat.mod_one]

end Go.Proofs.YtngnleoggblinaaGreat

/-
  The program's inReach and windOfEdge; its edges begin with the one that closes the line.
-/
namespace Go.Proofs.YtngnleoggblinaaGreat
open Go.RowKit
set_option linter.unusedVariables false

/-- The first k edges, each told by the point at which it ends. -/
def windB (n : Nat) (pf : Nat → Pt) (p : Pt) : Nat → Int
  | 0 => 0
  | k + 1 => windB n pf p k + windE (pf ((k + n - 1) % n)) (pf k) p
theorem windB_bd (n : Nat) (pf : Nat → Pt) (p : Pt) : ∀ k : Nat, -(k : Int) ≤ windB n pf p k ∧ windB n pf p k ≤ (k : Int)
  | 0 => by simp [windB]
  | k + 1 => by
    have := windB_bd n pf p k
    have := windE_bd (pf ((k + n - 1) % n)) (pf k) p
    simp only [windB]; push_cast; omega
theorem windB_one (n : Nat) (pf : Nat → Pt) (p : Pt) : ∀ k : Nat, k + 1 ≤ n → windB n pf p (k + 1) = windE (pf (n - 1)) (pf 0) p + windN n pf p k
  | 0, h => by
    have e : (0 + n - 1) % n = n - 1 := by rw [Nat.zero_add]; exact Nat.mod_eq_of_lt (by omega)
    simp only [windB, windN, e]; omega
  | k + 1, h => by
    have e : (k + 1 + n - 1) % n = k := by
      rw [show k + 1 + n - 1 = k + n by omega, Nat.add_mod_right]; exact Nat.mod_eq_of_lt (by omega)
    have e' : (k + 1) % n = k + 1 := Nat.mod_eq_of_lt (by omega)
    have ih := windB_one n pf p k (by omega)
    rw [windB, e, ih, windN, e']; omega
theorem windB_all (n : Nat) (pf : Nat → Pt) (p : Pt) : windB n pf p n = windN n pf p n := by
  cases n with
  | zero => rfl
  | succ m =>
    rw [windB_one (m + 1) pf p m (Nat.le_refl _), windN, Nat.mod_self]
    simp only [Nat.add_sub_cancel]; omega
theorem windE_sw (a b p : Pt) : windE a b p = if upB a b p = true then 1 else if downB a b p = true then -1 else 0 := by
  unfold windE upB downB
  simp only [Bool.and_eq_true, decide_eq_true_eq]
  split <;> split <;> omega

theorem near_more {f : Nat → Pt} {k : Nat} (h : ∀ j, j < k → nearB (f j).1 (f j).2 = true) (hk : nearB (f k).1 (f k).2 = true) : ∀ j, j < k + 1 → nearB (f j).1 (f j).2 = true := by
  intro j hj
  by_cases e : j = k
  · subst e; exact hk
  · exact h j (by omega)
theorem near_not {x y : Int} (h : x < -33554432 ∨ 33554432 < x ∨ y < -33554432 ∨ 33554432 < y) : ¬ nearB x y = true := by
  simp only [nearB, inB, Bool.and_eq_true, decide_eq_true_eq]; omega
theorem near_yes {x y : Int} (h1 : ¬ x < -33554432) (h2 : ¬ 33554432 < x) (h3 : ¬ y < -33554432) (h4 : ¬ 33554432 < y) : nearB x y = true := by
  simp only [nearB, inB, Bool.and_eq_true, decide_eq_true_eq]; omega

theorem ret_int {a b : Int} (h : a = b) : Ending.returned (.int .i64 a) = .returned (.int .i64 b) := by rw [h]

end Go.Proofs.YtngnleoggblinaaGreat

/-
  The program's CountOf.
-/
namespace Go.Proofs.YtngnleoggblinaaGreat
open Go.RowKit
set_option linter.unusedVariables false

/-- What the loop has still to count. -/
theorem count_out {b : Int} (h : b < 0 ∨ 15 < b) : countI b = 0 := by
  unfold countI; rw [if_neg]; rw [inB_true]; omega

set_option maxHeartbeats 4000000 in
theorem implCountOf_any (b : Int) (w : World) :
    Calls Tryz.prog 35 #[.int .i64 b] w fun e w' => e = .returned (.int .i64 (countI b)) ∧ Below w.heap.size w w' := by
  by_cases h1 : b < 0
  · rw [count_out (.inl h1)]
    go_enter Tryz.func35, Tryz.ntmps35
    go_wp2_with fail
    go_ret
    exact ⟨rfl, Below.refl _ _⟩
  by_cases h2 : 15 < b
  · rw [count_out (.inr h2)]
    go_enter Tryz.func35, Tryz.ntmps35
    go_wp2_with fail
    go_ret
    exact ⟨rfl, Below.refl _ _⟩
  have hC : Hid (countI b = b % 2 + b / 2 % 2 + b / 4 % 2 + b / 8) := by
    unfold Hid countI; rw [if_pos]; rw [inB_true]; omega
  generalize countI b = C at hC ⊢
  go_enter Tryz.func35, Tryz.ntmps35
  go_wp2_with fail
  go_loopw [3, 4] (fun s r u => ∃ (k t : Int), r = .int .i64 t ∧ s = .int .i64 k ∧ 0 ≤ t ∧ t ≤ 15 ∧ 0 ≤ k ∧ k + t ≤ 15 ∧ Hid (C = k + (t % 2 + t / 2 % 2 + t / 4 % 2 + t / 8)) ∧ u = w) (fun _ r _ => (intOf r).toNat)
  case atStart => exact ⟨0, b, rfl, rfl, by omega, by omega, by omega, by omega, by unfold Hid; rw [unhide hC]; omega, rfl⟩
  case round =>
    clear hC
    obtain ⟨k, t, rfl, rfl, t1, t2, k1, k2, hC, rfl⟩ := hrel
    by_cases ht : 0 < t
    · have e1 : t.tmod 2 = t % 2 := Int.tmod_eq_emod_of_nonneg (by omega)
      have e2 : t.tdiv 2 = t / 2 := Int.tdiv_eq_ediv_of_nonneg (by omega)
      have w1 : IntKind.i64.wrap (k + t % 2) = k + t % 2 := IntWalk.i64_in _ (by omega)
      have w2 : IntKind.i64.wrap (t / 2) = t / 2 := IntWalk.i64_in _ (by omega)
      go_wp2_with fail
      go_roundw
      case rel => exact ⟨k + t % 2, t / 2, by go_num, by go_num, by omega, by omega, by omega, by omega, by unfold Hid; rw [unhide hC]; omega, trivial⟩
      case measure => simp [intOf]; omega
    · have ht0 : t = 0 := by omega
      subst ht0
      go_wp2_with fail
      go_ret
      exact ⟨ret_int (by rw [unhide hC]; omega), Below.refl _ _⟩
end Go.Proofs.YtngnleoggblinaaGreat

/-
  The program's mask that is painted on a surface.
-/
namespace Go.Proofs.YtngnleoggblinaaGreat
open Go.RowKit
set_option linter.unusedVariables false

theorem cell1_row' {w1 : World} {b : Nat} {x : Value} {t : TypeId} (h : w1.heap[b]? = some (.cells #[x] t (0, 0))) : w1.cell? ⟨b, 0, none⟩ = some x := by simp [World.cell?, h]
/-- One square, painted with a colour. -/
def inkD (mode fade bits : Int) (C s : B4) : B4 := if bits = 0 then s else blendC mode (fadeC (thinC C (countI bits)) fade) s
theorem ink_eq (p : P13) (mode fade bits px py : Int) (s : B4) : inkC p mode fade bits px py s = inkD mode fade bits (colorAtC p px py) s := rfl

set_option maxHeartbeats 8000000 in
set_option maxRecDepth 100000 in
theorem implPaint1Even_any (c1 : Value) (qk qm qc qf : Nat) (a b c d : Int) (g : Nat → Int) (bo : Option Addr) (m cb : Nat) (hm : m ≤ 1048576) (hcb : m ≤ cb) (hM : maskOkB a b c d m g = true) (mode fade px py : Int) (C : B4) (z0 z1 z2 z3 : Int) (w : World)
    (k0 : w.heap[qk]? = some (.cells #[.int .i64 a, .int .i64 b, .int .i64 c, .int .i64 d, .slice bo m cb] 32 (0, 0))) (m0 : w.cell? ⟨qm, 0, none⟩ = some (.int .i64 mode)) (c0 : w.cell? ⟨qc, 0, none⟩ = some (.func (.func 99) #[] #[c1])) (f0 : w.cell? ⟨qf, 0, none⟩ = some (.int .i64 fade)) (Q : ∀ i, i < m → IntAt w bo i (g i))
    (EK : ∀ u, Below w.heap.size w u → Calls Tryz.prog 99 #[.int .i64 px, .int .i64 py, c1] u fun r u' => r = .returned (.agg #[.int .i64 C.x0, .int .i64 C.y0, .int .i64 C.x1, .int .i64 C.y1]) ∧ Below u.heap.size u u') :
    Calls Tryz.prog 30 #[.int .i64 px, .int .i64 py, .agg #[.int .i64 z0, .int .i64 z1, .int .i64 z2, .int .i64 z3], .pointer (some ⟨qk, 0, none⟩), .pointer (some ⟨qm, 0, none⟩), .pointer (some ⟨qc, 0, none⟩), .pointer (some ⟨qf, 0, none⟩)] w fun r w' => r = .returned (.agg #[.int .i64 ((inkD mode fade (atI a b c d g px py) C ⟨z0, z1, z2, z3⟩).x0), .int .i64 ((inkD mode fade (atI a b c d g px py) C ⟨z0, z1, z2, z3⟩).y0), .int .i64 ((inkD mode fade (atI a b c d g px py) C ⟨z0, z1, z2, z3⟩).x1), .int .i64 ((inkD mode fade (atI a b c d g px py) C ⟨z0, z1, z2, z3⟩).y1)]) ∧ Below w.heap.size w w' := by
  obtain ⟨C0, C1, C2, C3⟩ := C
  have EBI := hide (fun u (hu : Below w.heap.size w u) => implBitsIn_any a b c d g bo m cb hm hcb px py hM u (fun i hi => (Q i hi).next hu))
  clear Q hM
  generalize atI a b c d g px py = B at EBI ⊢
  have EN := hide (implCountOf_any B)
  have hI0 : Hid (B = 0 → inkD mode fade B ⟨C0, C1, C2, C3⟩ ⟨z0, z1, z2, z3⟩ = ⟨z0, z1, z2, z3⟩) := fun h => if_pos h
  have hI1 : Hid (¬ B = 0 → inkD mode fade B ⟨C0, C1, C2, C3⟩ ⟨z0, z1, z2, z3⟩ = blendC mode (fadeC (thinC ⟨C0, C1, C2, C3⟩ (countI B)) fade) ⟨z0, z1, z2, z3⟩) := fun h => if_neg h
  generalize inkD mode fade B ⟨C0, C1, C2, C3⟩ ⟨z0, z1, z2, z3⟩ = E at hI0 hI1 ⊢
  generalize countI B = nn at EN hI1
  have ET := hide (implThin_any C0 C1 C2 C3 nn)
  generalize thinC ⟨C0, C1, C2, C3⟩ nn = T at ET hI1
  obtain ⟨T0, T1, T2, T3⟩ := T
  dsimp only at ET
  have EF := hide (implFade_any T0 T1 T2 T3 fade)
  generalize fadeC ⟨T0, T1, T2, T3⟩ fade = D at EF hI1
  obtain ⟨D0, D1, D2, D3⟩ := D
  dsimp only at EF
  have EB := hide (implBlend_any mode D0 D1 D2 D3 z0 z1 z2 z3)
  generalize blendC mode ⟨D0, D1, D2, D3⟩ ⟨z0, z1, z2, z3⟩ = G at EB hI1
  dsimp only at EK
  replace EK := hide EK
  have lt := hide (show qm < w.heap.size ∧ qf < w.heap.size ∧ qc < w.heap.size from ⟨block_lt_of_cell m0, block_lt_of_cell f0, block_lt_of_cell c0⟩)
  have kk := hide (show ∀ u, Below w.heap.size w u → (u.cell? ⟨qm, 0, none⟩ = some (.int .i64 mode) ∧ u.cell? ⟨qf, 0, none⟩ = some (.int .i64 fade) ∧ u.cell? ⟨qc, 0, none⟩ = some (.func (.func 99) #[] #[c1])) from fun u h => ⟨kc h m0, kc h f0, kc h c0⟩)
  replace k0 := hide k0
  clear m0 f0 c0
  go_enter Tryz.func30, Tryz.ntmps30
  go_upto_region 1 with fail
  have R9 := hide (al2_0 w (.cells #[.int .i64 z0, .int .i64 z1, .int .i64 z2, .int .i64 z3] 36) (.cells #[.int .i64 0, .int .i64 0, .int .i64 0, .int .i64 0] 36))
  have R10 := hide (al2_1 w (.cells #[.int .i64 z0, .int .i64 z1, .int .i64 z2, .int .i64 z3] 36) (.cells #[.int .i64 0, .int .i64 0, .int .i64 0, .int .i64 0] 36))
  have HB := hide (al2_below w (.cells #[.int .i64 z0, .int .i64 z1, .int .i64 z2, .int .i64 z3] 36) (.cells #[.int .i64 0, .int .i64 0, .int .i64 0, .int .i64 0] 36))
  obtain ⟨b10, hb10⟩ : ∃ b, Hid (b = w.heap.size + 1) := ⟨_, rfl⟩
  obtain ⟨b9, hb9⟩ : ∃ b, Hid (b = w.heap.size) := ⟨_, rfl⟩
  have lz : Hid (w.heap.size ≤ b10 ∧ b9 < b10 ∧ qm < b10 ∧ qf < b10 ∧ qc < b10) := by have := unhide lt; unfold Hid; rw [unhide hb10, unhide hb9]; omega
  rw [← unhide hb10] at R10
  rw [← unhide hb9] at R9
  rw [← unhide hb10, ← unhide hb9]
  generalize (w.alloc (.cells #[.int .i64 z0, .int .i64 z1, .int .i64 z2, .int .i64 z3] 36)).alloc (.cells #[.int .i64 0, .int .i64 0, .int .i64 0, .int .i64 0] 36) = W at R9 R10 HB ⊢
  clear hb10 hb9 lt
  have EBI1 := hide (unhide EBI W (unhide HB))
  obtain ⟨q0, q1, q2, q3, q4⟩ := row5m (row_next (unhide HB) (unhide k0))
  go_wp2_with fail
  go_fit (unhide EBI1)
  rintro r W2 ⟨rfl, hb⟩
  replace R9 := hide (row_next hb (unhide R9))
  replace R10 := hide (row_next hb (unhide R10))
  replace HB := hide (below_two (unhide HB) hb)
  clear hb q0 q1 q2 q3 q4 EBI EBI1
  by_cases hB0 : B = 0
  · have hE := hide (unhide hI0 hB0)
    subst hB0
    obtain ⟨e0, e1, e2, e3⟩ := row4 (unhide R10)
    obtain ⟨f0, f1, f2, f3⟩ := free4 (unhide R10)
    obtain ⟨a0, a1, a2, a3⟩ := row4 (unhide R9)
    go_wp2_with fail
    refine bodyPost_ret (v := .agg #[.int .i64 z0, .int .i64 z1, .int .i64 z2, .int .i64 z3]) (by simp [results, Tryz.results30, go_sem, e0, e1, e2, e3]) rfl ⟨by rw [unhide hE], ?_⟩
    exact below_put4 (unhide HB) (unhide lz).1 _ _ _ _
  · have hE := hide (unhide hI1 hB0)
    have hBb : (B == 0) = false := beq_eq_false_iff_ne.2 hB0
    clear hI0 hI1 hB0
    have l10 := hide (show b10 < W2.heap.size from heap_lt (unhide R10))
    have ne1 : ¬ b10 = qm := by have := unhide lz; omega
    have ne2 : ¬ qm = b10 := by have := unhide lz; omega
    have ne3 : ¬ b10 = qf := by have := unhide lz; omega
    have ne4 : ¬ qf = b10 := by have := unhide lz; omega
    have ne5 : ¬ b10 = qc := by have := unhide lz; omega
    have ne6 : ¬ qc = b10 := by have := unhide lz; omega
    have ne9 : ¬ b10 = b9 := by have := unhide lz; omega
    have ne10 : ¬ b9 = b10 := by have := unhide lz; omega
    have k1 := hide (show ∀ u, Below b10 W2 u → (u.cell? ⟨qm, 0, none⟩ = some (.int .i64 mode) ∧ u.cell? ⟨qf, 0, none⟩ = some (.int .i64 fade) ∧ u.cell? ⟨qc, 0, none⟩ = some (.func (.func 99) #[] #[c1]) ∧ u.cell? ⟨b9, 0, none⟩ = some (.int .i64 z0) ∧ u.cell? ⟨b9, 1, none⟩ = some (.int .i64 z1) ∧ u.cell? ⟨b9, 2, none⟩ = some (.int .i64 z2) ∧ u.cell? ⟨b9, 3, none⟩ = some (.int .i64 z3) ∧ Below b10 W2 u) from fun u h => by
      obtain ⟨a0, a1, a2, a3⟩ := row4 ((h.block b9 (unhide lz).2.1).trans (unhide R9))
      obtain ⟨c0, c1, c2⟩ := unhide kk u ((unhide HB).trans (h.mono (unhide lz).1))
      exact ⟨c0, c1, c2, a0, a1, a2, a3, h⟩)
    have EK0 := hide (unhide EK W2.drew (unhide HB).drew)
    have EK2 := hide (fun u (hu : Below W2.heap.size W2 u) => unhide EK u (below_two (unhide HB) hu))
    clear EK kk k0
    go_upto_region 4 with fail
    have k00 := hide (unhide k1 _ (Below.refl _ _).drew)
    go_region_held3 (fun u => u.cell? ⟨qm, 0, none⟩ = some (.int .i64 mode) ∧ u.cell? ⟨qf, 0, none⟩ = some (.int .i64 fade) ∧ u.cell? ⟨qc, 0, none⟩ = some (.func (.func 99) #[] #[c1]) ∧ u.cell? ⟨b9, 0, none⟩ = some (.int .i64 z0) ∧ u.cell? ⟨b9, 1, none⟩ = some (.int .i64 z1) ∧ u.cell? ⟨b9, 2, none⟩ = some (.int .i64 z2) ∧ u.cell? ⟨b9, 3, none⟩ = some (.int .i64 z3) ∧ Below b10 W2 u) ((first | with_reducible exact unhide k00 | (with_reducible refine unhide k1 _ ?_; first | with_reducible exact Below.mono (by assumption) (Nat.le_of_lt (unhide l10)) | (with_reducible refine below_put4 ?_ (Nat.le_refl _) _ _ _ _; with_reducible exact Below.mono (by assumption) (Nat.le_of_lt (unhide l10)))))) (first | (go_at_call 99; go_fit (unhide EK0); rintro e w4 ⟨rfl, hb4⟩; have hA := below_undrew hb4; clear hb4) | (go_at_call 99; go_fit (unhide EK2 _ hA); rintro e w4 ⟨rfl, hb4⟩; have hAB := below_two hA hb4; clear hA hb4) | (go_at_call 35; go_fit (unhide EN _); rintro e w3 ⟨rfl, hb3⟩; first | (have hAB := below_two hA hb3; clear hA hb3) | (have hA := below_undrew hb3; clear hb3)) | (go_at_call 34; go_fit (unhide ET _); rintro e w5 ⟨rfl, hb5⟩; have h5 := below_two hAB hb5; clear hAB hb5) | (go_at_call 33; go_fit (unhide EF _); rintro e w6 ⟨rfl, hb6⟩; have h6 := below_two h5 hb6; clear h5 hb6) | (go_at_call 32; go_fit (unhide EB _); rintro e w7 ⟨rfl, hb7⟩; have h7 := below_two h6 hb7; clear h6 hb7; obtain ⟨e0, e1, e2, e3⟩ := row4 (row_next h7 (unhide R10)); obtain ⟨f0, f1, f2, f3⟩ := free4 (row_next h7 (unhide R10))))
    all_goals
      go_wp2_with fail
      refine bodyPost_ret (v := .agg #[.int .i64 G.x0, .int .i64 G.y0, .int .i64 G.x1, .int .i64 G.y1]) (by simp [results, Tryz.results30, go_sem, e0, e1, e2, e3]) rfl ⟨by rw [unhide hE], ?_⟩
      exact below_put4 (below_two (unhide HB) h7) (unhide lz).1 _ _ _ _

set_option maxHeartbeats 8000000 in
set_option maxRecDepth 100000 in
theorem implPaint1Slope_any (c1 c2 : Value) (qk qm qc qf : Nat) (a b c d : Int) (g : Nat → Int) (bo : Option Addr) (m cb : Nat) (hm : m ≤ 1048576) (hcb : m ≤ cb) (hM : maskOkB a b c d m g = true) (mode fade px py : Int) (C : B4) (z0 z1 z2 z3 : Int) (w : World)
    (k0 : w.heap[qk]? = some (.cells #[.int .i64 a, .int .i64 b, .int .i64 c, .int .i64 d, .slice bo m cb] 32 (0, 0))) (m0 : w.cell? ⟨qm, 0, none⟩ = some (.int .i64 mode)) (c0 : w.cell? ⟨qc, 0, none⟩ = some (.func (.func 70) #[] #[c1, c2])) (f0 : w.cell? ⟨qf, 0, none⟩ = some (.int .i64 fade)) (Q : ∀ i, i < m → IntAt w bo i (g i))
    (EK : ∀ u, Below w.heap.size w u → Calls Tryz.prog 70 #[.int .i64 px, .int .i64 py, c1, c2] u fun r u' => r = .returned (.agg #[.int .i64 C.x0, .int .i64 C.y0, .int .i64 C.x1, .int .i64 C.y1]) ∧ Below u.heap.size u u') :
    Calls Tryz.prog 30 #[.int .i64 px, .int .i64 py, .agg #[.int .i64 z0, .int .i64 z1, .int .i64 z2, .int .i64 z3], .pointer (some ⟨qk, 0, none⟩), .pointer (some ⟨qm, 0, none⟩), .pointer (some ⟨qc, 0, none⟩), .pointer (some ⟨qf, 0, none⟩)] w fun r w' => r = .returned (.agg #[.int .i64 ((inkD mode fade (atI a b c d g px py) C ⟨z0, z1, z2, z3⟩).x0), .int .i64 ((inkD mode fade (atI a b c d g px py) C ⟨z0, z1, z2, z3⟩).y0), .int .i64 ((inkD mode fade (atI a b c d g px py) C ⟨z0, z1, z2, z3⟩).x1), .int .i64 ((inkD mode fade (atI a b c d g px py) C ⟨z0, z1, z2, z3⟩).y1)]) ∧ Below w.heap.size w w' := by
  obtain ⟨C0, C1, C2, C3⟩ := C
  have EBI := hide (fun u (hu : Below w.heap.size w u) => implBitsIn_any a b c d g bo m cb hm hcb px py hM u (fun i hi => (Q i hi).next hu))
  clear Q hM
  generalize atI a b c d g px py = B at EBI ⊢
  have EN := hide (implCountOf_any B)
  have hI0 : Hid (B = 0 → inkD mode fade B ⟨C0, C1, C2, C3⟩ ⟨z0, z1, z2, z3⟩ = ⟨z0, z1, z2, z3⟩) := fun h => if_pos h
  have hI1 : Hid (¬ B = 0 → inkD mode fade B ⟨C0, C1, C2, C3⟩ ⟨z0, z1, z2, z3⟩ = blendC mode (fadeC (thinC ⟨C0, C1, C2, C3⟩ (countI B)) fade) ⟨z0, z1, z2, z3⟩) := fun h => if_neg h
  generalize inkD mode fade B ⟨C0, C1, C2, C3⟩ ⟨z0, z1, z2, z3⟩ = E at hI0 hI1 ⊢
  generalize countI B = nn at EN hI1
  have ET := hide (implThin_any C0 C1 C2 C3 nn)
  generalize thinC ⟨C0, C1, C2, C3⟩ nn = T at ET hI1
  obtain ⟨T0, T1, T2, T3⟩ := T
  dsimp only at ET
  have EF := hide (implFade_any T0 T1 T2 T3 fade)
  generalize fadeC ⟨T0, T1, T2, T3⟩ fade = D at EF hI1
  obtain ⟨D0, D1, D2, D3⟩ := D
  dsimp only at EF
  have EB := hide (implBlend_any mode D0 D1 D2 D3 z0 z1 z2 z3)
  generalize blendC mode ⟨D0, D1, D2, D3⟩ ⟨z0, z1, z2, z3⟩ = G at EB hI1
  dsimp only at EK
  replace EK := hide EK
  have lt := hide (show qm < w.heap.size ∧ qf < w.heap.size ∧ qc < w.heap.size from ⟨block_lt_of_cell m0, block_lt_of_cell f0, block_lt_of_cell c0⟩)
  have kk := hide (show ∀ u, Below w.heap.size w u → (u.cell? ⟨qm, 0, none⟩ = some (.int .i64 mode) ∧ u.cell? ⟨qf, 0, none⟩ = some (.int .i64 fade) ∧ u.cell? ⟨qc, 0, none⟩ = some (.func (.func 70) #[] #[c1, c2])) from fun u h => ⟨kc h m0, kc h f0, kc h c0⟩)
  replace k0 := hide k0
  clear m0 f0 c0
  go_enter Tryz.func30, Tryz.ntmps30
  go_upto_region 1 with fail
  have R9 := hide (al2_0 w (.cells #[.int .i64 z0, .int .i64 z1, .int .i64 z2, .int .i64 z3] 36) (.cells #[.int .i64 0, .int .i64 0, .int .i64 0, .int .i64 0] 36))
  have R10 := hide (al2_1 w (.cells #[.int .i64 z0, .int .i64 z1, .int .i64 z2, .int .i64 z3] 36) (.cells #[.int .i64 0, .int .i64 0, .int .i64 0, .int .i64 0] 36))
  have HB := hide (al2_below w (.cells #[.int .i64 z0, .int .i64 z1, .int .i64 z2, .int .i64 z3] 36) (.cells #[.int .i64 0, .int .i64 0, .int .i64 0, .int .i64 0] 36))
  obtain ⟨b10, hb10⟩ : ∃ b, Hid (b = w.heap.size + 1) := ⟨_, rfl⟩
  obtain ⟨b9, hb9⟩ : ∃ b, Hid (b = w.heap.size) := ⟨_, rfl⟩
  have lz : Hid (w.heap.size ≤ b10 ∧ b9 < b10 ∧ qm < b10 ∧ qf < b10 ∧ qc < b10) := by have := unhide lt; unfold Hid; rw [unhide hb10, unhide hb9]; omega
  rw [← unhide hb10] at R10
  rw [← unhide hb9] at R9
  rw [← unhide hb10, ← unhide hb9]
  generalize (w.alloc (.cells #[.int .i64 z0, .int .i64 z1, .int .i64 z2, .int .i64 z3] 36)).alloc (.cells #[.int .i64 0, .int .i64 0, .int .i64 0, .int .i64 0] 36) = W at R9 R10 HB ⊢
  clear hb10 hb9 lt
  have EBI1 := hide (unhide EBI W (unhide HB))
  obtain ⟨q0, q1, q2, q3, q4⟩ := row5m (row_next (unhide HB) (unhide k0))
  go_wp2_with fail
  go_fit (unhide EBI1)
  rintro r W2 ⟨rfl, hb⟩
  replace R9 := hide (row_next hb (unhide R9))
  replace R10 := hide (row_next hb (unhide R10))
  replace HB := hide (below_two (unhide HB) hb)
  clear hb q0 q1 q2 q3 q4 EBI EBI1
  by_cases hB0 : B = 0
  · have hE := hide (unhide hI0 hB0)
    subst hB0
    obtain ⟨e0, e1, e2, e3⟩ := row4 (unhide R10)
    obtain ⟨f0, f1, f2, f3⟩ := free4 (unhide R10)
    obtain ⟨a0, a1, a2, a3⟩ := row4 (unhide R9)
    go_wp2_with fail
    refine bodyPost_ret (v := .agg #[.int .i64 z0, .int .i64 z1, .int .i64 z2, .int .i64 z3]) (by simp [results, Tryz.results30, go_sem, e0, e1, e2, e3]) rfl ⟨by rw [unhide hE], ?_⟩
    exact below_put4 (unhide HB) (unhide lz).1 _ _ _ _
  · have hE := hide (unhide hI1 hB0)
    have hBb : (B == 0) = false := beq_eq_false_iff_ne.2 hB0
    clear hI0 hI1 hB0
    have l10 := hide (show b10 < W2.heap.size from heap_lt (unhide R10))
    have ne1 : ¬ b10 = qm := by have := unhide lz; omega
    have ne2 : ¬ qm = b10 := by have := unhide lz; omega
    have ne3 : ¬ b10 = qf := by have := unhide lz; omega
    have ne4 : ¬ qf = b10 := by have := unhide lz; omega
    have ne5 : ¬ b10 = qc := by have := unhide lz; omega
    have ne6 : ¬ qc = b10 := by have := unhide lz; omega
    have ne9 : ¬ b10 = b9 := by have := unhide lz; omega
    have ne10 : ¬ b9 = b10 := by have := unhide lz; omega
    have k1 := hide (show ∀ u, Below b10 W2 u → (u.cell? ⟨qm, 0, none⟩ = some (.int .i64 mode) ∧ u.cell? ⟨qf, 0, none⟩ = some (.int .i64 fade) ∧ u.cell? ⟨qc, 0, none⟩ = some (.func (.func 70) #[] #[c1, c2]) ∧ u.cell? ⟨b9, 0, none⟩ = some (.int .i64 z0) ∧ u.cell? ⟨b9, 1, none⟩ = some (.int .i64 z1) ∧ u.cell? ⟨b9, 2, none⟩ = some (.int .i64 z2) ∧ u.cell? ⟨b9, 3, none⟩ = some (.int .i64 z3) ∧ Below b10 W2 u) from fun u h => by
      obtain ⟨a0, a1, a2, a3⟩ := row4 ((h.block b9 (unhide lz).2.1).trans (unhide R9))
      obtain ⟨c0, c1, c2⟩ := unhide kk u ((unhide HB).trans (h.mono (unhide lz).1))
      exact ⟨c0, c1, c2, a0, a1, a2, a3, h⟩)
    have EK0 := hide (unhide EK W2.drew (unhide HB).drew)
    have EK2 := hide (fun u (hu : Below W2.heap.size W2 u) => unhide EK u (below_two (unhide HB) hu))
    clear EK kk k0
    go_upto_region 4 with fail
    have k00 := hide (unhide k1 _ (Below.refl _ _).drew)
    go_region_held3 (fun u => u.cell? ⟨qm, 0, none⟩ = some (.int .i64 mode) ∧ u.cell? ⟨qf, 0, none⟩ = some (.int .i64 fade) ∧ u.cell? ⟨qc, 0, none⟩ = some (.func (.func 70) #[] #[c1, c2]) ∧ u.cell? ⟨b9, 0, none⟩ = some (.int .i64 z0) ∧ u.cell? ⟨b9, 1, none⟩ = some (.int .i64 z1) ∧ u.cell? ⟨b9, 2, none⟩ = some (.int .i64 z2) ∧ u.cell? ⟨b9, 3, none⟩ = some (.int .i64 z3) ∧ Below b10 W2 u) ((first | with_reducible exact unhide k00 | (with_reducible refine unhide k1 _ ?_; first | with_reducible exact Below.mono (by assumption) (Nat.le_of_lt (unhide l10)) | (with_reducible refine below_put4 ?_ (Nat.le_refl _) _ _ _ _; with_reducible exact Below.mono (by assumption) (Nat.le_of_lt (unhide l10)))))) (first | (go_at_call 70; go_fit (unhide EK0); rintro e w4 ⟨rfl, hb4⟩; have hA := below_undrew hb4; clear hb4) | (go_at_call 70; go_fit (unhide EK2 _ hA); rintro e w4 ⟨rfl, hb4⟩; have hAB := below_two hA hb4; clear hA hb4) | (go_at_call 35; go_fit (unhide EN _); rintro e w3 ⟨rfl, hb3⟩; first | (have hAB := below_two hA hb3; clear hA hb3) | (have hA := below_undrew hb3; clear hb3)) | (go_at_call 34; go_fit (unhide ET _); rintro e w5 ⟨rfl, hb5⟩; have h5 := below_two hAB hb5; clear hAB hb5) | (go_at_call 33; go_fit (unhide EF _); rintro e w6 ⟨rfl, hb6⟩; have h6 := below_two h5 hb6; clear h5 hb6) | (go_at_call 32; go_fit (unhide EB _); rintro e w7 ⟨rfl, hb7⟩; have h7 := below_two h6 hb7; clear h6 hb7; obtain ⟨e0, e1, e2, e3⟩ := row4 (row_next h7 (unhide R10)); obtain ⟨f0, f1, f2, f3⟩ := free4 (row_next h7 (unhide R10))))
    all_goals
      go_wp2_with fail
      refine bodyPost_ret (v := .agg #[.int .i64 G.x0, .int .i64 G.y0, .int .i64 G.x1, .int .i64 G.y1]) (by simp [results, Tryz.results30, go_sem, e0, e1, e2, e3]) rfl ⟨by rw [unhide hE], ?_⟩
      exact below_put4 (below_two (unhide HB) h7) (unhide lz).1 _ _ _ _

set_option maxHeartbeats 16000000 in
set_option maxRecDepth 100000 in
theorem implPaintMask_any (x y : Int) (f : Nat → B4) (ao : Option Addr) (n ca : Nat) (hn : n ≤ 1048576) (hca : n ≤ ca) (hao : ao = none → ca = 0) (a b c d : Int) (g : Nat → Int) (bo : Option Addr) (m cb : Nat) (hm : m ≤ 1048576) (hcb : m ≤ cb) (pk pr pg pb pa pr2 pg2 pb2 pa2 pfx pfy ptx pty : Int) (mode fade : Int) (w : World) (P : ∀ i, i < n → ClAt w ao i (f i)) (Q : ∀ i, i < m → IntAt w bo i (g i)) :
    Calls Tryz.prog 9 #[.agg #[.int .i64 x, .int .i64 y, .slice ao n ca], .agg #[.int .i64 a, .int .i64 b, .int .i64 c, .int .i64 d, .slice bo m cb], .agg #[.int .i64 pk, .int .i64 pr, .int .i64 pg, .int .i64 pb, .int .i64 pa, .int .i64 pr2, .int .i64 pg2, .int .i64 pb2, .int .i64 pa2, .int .i64 pfx, .int .i64 pfy, .int .i64 ptx, .int .i64 pty], .int .i64 mode, .int .i64 fade] w fun r w' => SurfRes w r w' x y n (paintOn ⟨pk, ⟨pr, pg, pb, pa⟩, ⟨pr2, pg2, pb2, pa2⟩, pfx, pfy, ptx, pty⟩ a b c d m g mode fade x y n f) := by
  have EO := hide (fun u => implSurfaceOk_any x y f ao n ca hn hca hao u)
  have EM := hide (fun u => implMaskOk_any a b c d g bo m cb hm u)
  have EP := hide (implPaintOk_any pk pr pg pb pa pr2 pg2 pb2 pa2 pfx pfy ptx pty)
  have EBR := hide (implBrushOf_any pk pr pg pb pa pr2 pg2 pb2 pa2 pfx pfy ptx pty)
  have ECP := hide (fun u => implSurfaceCopy_any x y f ao n ca hn hca hao u)
  have hF : Hid (paintOn ⟨pk, ⟨pr, pg, pb, pa⟩, ⟨pr2, pg2, pb2, pa2⟩, pfx, pfy, ptx, pty⟩ a b c d m g mode fade x y n f = if surfOkB x y n f = true ∧ maskOkB a b c d m g = true ∧ paintOkB ⟨pk, ⟨pr, pg, pb, pa⟩, ⟨pr2, pg2, pb2, pa2⟩, pfx, pfy, ptx, pty⟩ = true then paintC ⟨pk, ⟨pr, pg, pb, pa⟩, ⟨pr2, pg2, pb2, pa2⟩, pfx, pfy, ptx, pty⟩ a b c d g mode fade x f else f) := rfl
  have hS : Hid (surfOkB x y n f = true → SOk x y n f) := fun h => surfOk_iff.1 h
  have hT : Hid (maskOkB a b c d m g = true → maskOkB a b c d m g = true) := fun h => h
  replace P := hide P
  replace Q := hide Q
  generalize surfOkB x y n f = X1 at EO hF hS
  obtain ⟨X2, hX2⟩ : ∃ X, Hid (maskOkB a b c d m g = X) := ⟨_, rfl⟩
  rw [unhide hX2] at EM hF
  obtain ⟨X3, hX3⟩ : ∃ X, Hid (paintOkB ⟨pk, ⟨pr, pg, pb, pa⟩, ⟨pr2, pg2, pb2, pa2⟩, pfx, pfy, ptx, pty⟩ = X) := ⟨_, rfl⟩
  rw [unhide hX3] at EP hF
  generalize paintOn ⟨pk, ⟨pr, pg, pb, pa⟩, ⟨pr2, pg2, pb2, pa2⟩, pfx, pfy, ptx, pty⟩ a b c d m g mode fade x y n f = F at hF ⊢
  unfold SurfRes
  go_enter Tryz.func9, Tryz.ntmps9
  go_upto_region 1 with fail
  have R5 := hide (al6_0 w (.cells #[.int .i64 x, .int .i64 y, .slice ao n ca] 26) (.cells #[.int .i64 a, .int .i64 b, .int .i64 c, .int .i64 d, .slice bo m cb] 32) (.cells #[.int .i64 pk, .int .i64 pr, .int .i64 pg, .int .i64 pb, .int .i64 pa, .int .i64 pr2, .int .i64 pg2, .int .i64 pb2, .int .i64 pa2, .int .i64 pfx, .int .i64 pfy, .int .i64 ptx, .int .i64 pty] 40) (.cells #[.int .i64 mode] 3) (.cells #[.int .i64 fade] 3) (.cells #[.int .i64 0, .int .i64 0, .slice none 0 0] 26))
  have R6 := hide (al6_1 w (.cells #[.int .i64 x, .int .i64 y, .slice ao n ca] 26) (.cells #[.int .i64 a, .int .i64 b, .int .i64 c, .int .i64 d, .slice bo m cb] 32) (.cells #[.int .i64 pk, .int .i64 pr, .int .i64 pg, .int .i64 pb, .int .i64 pa, .int .i64 pr2, .int .i64 pg2, .int .i64 pb2, .int .i64 pa2, .int .i64 pfx, .int .i64 pfy, .int .i64 ptx, .int .i64 pty] 40) (.cells #[.int .i64 mode] 3) (.cells #[.int .i64 fade] 3) (.cells #[.int .i64 0, .int .i64 0, .slice none 0 0] 26))
  have R7 := hide (al6_2 w (.cells #[.int .i64 x, .int .i64 y, .slice ao n ca] 26) (.cells #[.int .i64 a, .int .i64 b, .int .i64 c, .int .i64 d, .slice bo m cb] 32) (.cells #[.int .i64 pk, .int .i64 pr, .int .i64 pg, .int .i64 pb, .int .i64 pa, .int .i64 pr2, .int .i64 pg2, .int .i64 pb2, .int .i64 pa2, .int .i64 pfx, .int .i64 pfy, .int .i64 ptx, .int .i64 pty] 40) (.cells #[.int .i64 mode] 3) (.cells #[.int .i64 fade] 3) (.cells #[.int .i64 0, .int .i64 0, .slice none 0 0] 26))
  have R8 := hide (al6_3 w (.cells #[.int .i64 x, .int .i64 y, .slice ao n ca] 26) (.cells #[.int .i64 a, .int .i64 b, .int .i64 c, .int .i64 d, .slice bo m cb] 32) (.cells #[.int .i64 pk, .int .i64 pr, .int .i64 pg, .int .i64 pb, .int .i64 pa, .int .i64 pr2, .int .i64 pg2, .int .i64 pb2, .int .i64 pa2, .int .i64 pfx, .int .i64 pfy, .int .i64 ptx, .int .i64 pty] 40) (.cells #[.int .i64 mode] 3) (.cells #[.int .i64 fade] 3) (.cells #[.int .i64 0, .int .i64 0, .slice none 0 0] 26))
  have R9 := hide (al6_4 w (.cells #[.int .i64 x, .int .i64 y, .slice ao n ca] 26) (.cells #[.int .i64 a, .int .i64 b, .int .i64 c, .int .i64 d, .slice bo m cb] 32) (.cells #[.int .i64 pk, .int .i64 pr, .int .i64 pg, .int .i64 pb, .int .i64 pa, .int .i64 pr2, .int .i64 pg2, .int .i64 pb2, .int .i64 pa2, .int .i64 pfx, .int .i64 pfy, .int .i64 ptx, .int .i64 pty] 40) (.cells #[.int .i64 mode] 3) (.cells #[.int .i64 fade] 3) (.cells #[.int .i64 0, .int .i64 0, .slice none 0 0] 26))
  have R10 := hide (al6_5 w (.cells #[.int .i64 x, .int .i64 y, .slice ao n ca] 26) (.cells #[.int .i64 a, .int .i64 b, .int .i64 c, .int .i64 d, .slice bo m cb] 32) (.cells #[.int .i64 pk, .int .i64 pr, .int .i64 pg, .int .i64 pb, .int .i64 pa, .int .i64 pr2, .int .i64 pg2, .int .i64 pb2, .int .i64 pa2, .int .i64 pfx, .int .i64 pfy, .int .i64 ptx, .int .i64 pty] 40) (.cells #[.int .i64 mode] 3) (.cells #[.int .i64 fade] 3) (.cells #[.int .i64 0, .int .i64 0, .slice none 0 0] 26))
  have HB := hide (al6_below w (.cells #[.int .i64 x, .int .i64 y, .slice ao n ca] 26) (.cells #[.int .i64 a, .int .i64 b, .int .i64 c, .int .i64 d, .slice bo m cb] 32) (.cells #[.int .i64 pk, .int .i64 pr, .int .i64 pg, .int .i64 pb, .int .i64 pa, .int .i64 pr2, .int .i64 pg2, .int .i64 pb2, .int .i64 pa2, .int .i64 pfx, .int .i64 pfy, .int .i64 ptx, .int .i64 pty] 40) (.cells #[.int .i64 mode] 3) (.cells #[.int .i64 fade] 3) (.cells #[.int .i64 0, .int .i64 0, .slice none 0 0] 26))
  obtain ⟨b10, hb10⟩ : ∃ b, Hid (b = w.heap.size + 1 + 1 + 1 + 1 + 1) := ⟨_, rfl⟩
  obtain ⟨b9, hb9⟩ : ∃ b, Hid (b = w.heap.size + 1 + 1 + 1 + 1) := ⟨_, rfl⟩
  obtain ⟨b8, hb8⟩ : ∃ b, Hid (b = w.heap.size + 1 + 1 + 1) := ⟨_, rfl⟩
  obtain ⟨b7, hb7⟩ : ∃ b, Hid (b = w.heap.size + 1 + 1) := ⟨_, rfl⟩
  obtain ⟨b6, hb6⟩ : ∃ b, Hid (b = w.heap.size + 1) := ⟨_, rfl⟩
  obtain ⟨b5, hb5⟩ : ∃ b, Hid (b = w.heap.size) := ⟨_, rfl⟩
  have lz : Hid (w.heap.size ≤ b10) := by unfold Hid; rw [unhide hb10]; omega
  rw [← unhide hb10] at R10
  rw [← unhide hb9] at R9
  rw [← unhide hb8] at R8
  rw [← unhide hb7] at R7
  rw [← unhide hb6] at R6
  rw [← unhide hb5] at R5
  rw [← unhide hb10, ← unhide hb9, ← unhide hb8, ← unhide hb7, ← unhide hb6, ← unhide hb5] 
  generalize (((((w.alloc (.cells #[.int .i64 x, .int .i64 y, .slice ao n ca] 26)).alloc (.cells #[.int .i64 a, .int .i64 b, .int .i64 c, .int .i64 d, .slice bo m cb] 32)).alloc (.cells #[.int .i64 pk, .int .i64 pr, .int .i64 pg, .int .i64 pb, .int .i64 pa, .int .i64 pr2, .int .i64 pg2, .int .i64 pb2, .int .i64 pa2, .int .i64 pfx, .int .i64 pfy, .int .i64 ptx, .int .i64 pty] 40)).alloc (.cells #[.int .i64 mode] 3)).alloc (.cells #[.int .i64 fade] 3)).alloc (.cells #[.int .i64 0, .int .i64 0, .slice none 0 0] 26) = W at R5 R6 R7 R8 R9 R10 HB ⊢
  clear hb10 hb9 hb8 hb7 hb6 hb5
  have E2 := hide (unhide EO W (fun i hi => (unhide P i hi).next (unhide HB)))
  obtain ⟨p0, p1, p2⟩ := row3 (unhide R5)
  go_wp2_with fail
  go_fit (unhide E2)
  rintro r w1 ⟨rfl, hb⟩
  replace R5 := hide (row_next hb (unhide R5))
  replace R6 := hide (row_next hb (unhide R6))
  replace R7 := hide (row_next hb (unhide R7))
  replace R8 := hide (row_next hb (unhide R8))
  replace R9 := hide (row_next hb (unhide R9))
  replace R10 := hide (row_next hb (unhide R10))
  replace HB := hide (below_two (unhide HB) hb)
  clear hb p0 p1 p2 E2 EO
  cases X1 with
  | false =>
    have hFn := hide (show F = f by rw [unhide hF, if_neg (by rintro ⟨h, _⟩; cases h)])
    obtain ⟨p0, p1, p2⟩ := row3 (unhide R5)
    have E2 := hide (unhide ECP w1 (fun i hi => (unhide P i hi).next (unhide HB)))
    have lW := hide (unhide HB).size
    have l10 := hide (heap_lt (unhide R10))
    clear hF
    go_wp2_with fail
    go_fit (unhide E2)
    rintro r w9 ⟨gp, gc, rfl, hO, hb⟩
    replace R10 := hide (row_next hb (unhide R10))
    replace HB := hide (below_two (unhide HB) hb)
    clear hb p0 p1 p2 E2
    replace hO := hide hO
    obtain ⟨e0, e1, e2⟩ := row3 (unhide R10)
    obtain ⟨f0, f1, f2⟩ := frozen3 (unhide R10)
    go_wp2_with fail
    refine bodyPost_ret (v := .agg #[.int .i64 x, .int .i64 y, .slice gp n gc]) (by simp [results, Tryz.results9, go_sem, e0, e1, e2]) rfl ⟨gp, gc, rfl, ?_, below_put3 (unhide HB) (unhide lz) _ _ _⟩
    obtain ⟨xs, o1, hx1⟩ := unhide hO
    rw [unhide hFn]
    exact ⟨xs, own_low (own_put3 o1 (fun k hk => by have := (o1.lt k hk).1; have := unhide l10; omega) _ _ _) (unhide lW), hx1⟩
  | true =>
  obtain ⟨p0, p1, p2, p3, p4⟩ := row5m (unhide R6)
  have E2 := hide (unhide EM w1 (fun i hi => (unhide Q i hi).next (unhide HB)))
  go_wp2_with fail
  go_fit (unhide E2)
  rintro r w2 ⟨rfl, hb⟩
  replace R5 := hide (row_next hb (unhide R5))
  replace R6 := hide (row_next hb (unhide R6))
  replace R7 := hide (row_next hb (unhide R7))
  replace R8 := hide (row_next hb (unhide R8))
  replace R9 := hide (row_next hb (unhide R9))
  replace R10 := hide (row_next hb (unhide R10))
  replace HB := hide (below_two (unhide HB) hb)
  clear hb p0 p1 p2 p3 p4 E2 EM
  cases X2 with
  | false =>
    have hFn := hide (show F = f by rw [unhide hF, if_neg (by rintro ⟨_, h, _⟩; cases h)])
    obtain ⟨p0, p1, p2⟩ := row3 (unhide R5)
    have E2 := hide (unhide ECP w2 (fun i hi => (unhide P i hi).next (unhide HB)))
    have lW := hide (unhide HB).size
    have l10 := hide (heap_lt (unhide R10))
    clear hF
    go_wp2_with fail
    go_fit (unhide E2)
    rintro r w9 ⟨gp, gc, rfl, hO, hb⟩
    replace R10 := hide (row_next hb (unhide R10))
    replace HB := hide (below_two (unhide HB) hb)
    clear hb p0 p1 p2 E2
    replace hO := hide hO
    obtain ⟨e0, e1, e2⟩ := row3 (unhide R10)
    obtain ⟨f0, f1, f2⟩ := frozen3 (unhide R10)
    go_wp2_with fail
    refine bodyPost_ret (v := .agg #[.int .i64 x, .int .i64 y, .slice gp n gc]) (by simp [results, Tryz.results9, go_sem, e0, e1, e2]) rfl ⟨gp, gc, rfl, ?_, below_put3 (unhide HB) (unhide lz) _ _ _⟩
    obtain ⟨xs, o1, hx1⟩ := unhide hO
    rw [unhide hFn]
    exact ⟨xs, own_low (own_put3 o1 (fun k hk => by have := (o1.lt k hk).1; have := unhide l10; omega) _ _ _) (unhide lW), hx1⟩
  | true =>
  obtain ⟨c0, c1, c2, c3, c4, c5, c6, c7, c8, c9, c10, c11, c12⟩ := row13 (unhide R7)
  go_wp2_with fail
  go_fit (unhide EP _)
  rintro r w3 ⟨rfl, hb⟩
  replace R5 := hide (row_next hb (unhide R5))
  replace R6 := hide (row_next hb (unhide R6))
  replace R7 := hide (row_next hb (unhide R7))
  replace R8 := hide (row_next hb (unhide R8))
  replace R9 := hide (row_next hb (unhide R9))
  replace R10 := hide (row_next hb (unhide R10))
  replace HB := hide (below_two (unhide HB) hb)
  clear hb c0 c1 c2 c3 c4 c5 c6 c7 c8 c9 c10 c11 c12 EP
  cases X3 with
  | false =>
    have hFn := hide (show F = f by rw [unhide hF, if_neg (by rintro ⟨_, _, h⟩; cases h)])
    obtain ⟨p0, p1, p2⟩ := row3 (unhide R5)
    have E2 := hide (unhide ECP w3 (fun i hi => (unhide P i hi).next (unhide HB)))
    have lW := hide (unhide HB).size
    have l10 := hide (heap_lt (unhide R10))
    clear hF
    go_wp2_with fail
    go_fit (unhide E2)
    rintro r w9 ⟨gp, gc, rfl, hO, hb⟩
    replace R10 := hide (row_next hb (unhide R10))
    replace HB := hide (below_two (unhide HB) hb)
    clear hb p0 p1 p2 E2
    replace hO := hide hO
    obtain ⟨e0, e1, e2⟩ := row3 (unhide R10)
    obtain ⟨f0, f1, f2⟩ := frozen3 (unhide R10)
    go_wp2_with fail
    refine bodyPost_ret (v := .agg #[.int .i64 x, .int .i64 y, .slice gp n gc]) (by simp [results, Tryz.results9, go_sem, e0, e1, e2]) rfl ⟨gp, gc, rfl, ?_, below_put3 (unhide HB) (unhide lz) _ _ _⟩
    obtain ⟨xs, o1, hx1⟩ := unhide hO
    rw [unhide hFn]
    exact ⟨xs, own_low (own_put3 o1 (fun k hk => by have := (o1.lt k hk).1; have := unhide l10; omega) _ _ _) (unhide lW), hx1⟩
  | true =>
  have sok := unhide hS (by trivial)
  have hMok : maskOkB a b c d m g = true := unhide hX2
  have hFx := hide (show F = (fun i : Nat => (fun (q j : Int) (s : B4) => inkD mode fade (atI a b c d g q j) (colorAtC ⟨pk, ⟨pr, pg, pb, pa⟩, ⟨pr2, pg2, pb2, pa2⟩, pfx, pfy, ptx, pty⟩ q j) s) ((i : Int) % x) ((i : Int) / x) (f i)) by
    rw [unhide hF, if_pos ⟨by trivial, by trivial, by trivial⟩]; rfl)
  clear hF hS hT hX2 hX3 ECP
  obtain ⟨c0, c1, c2, c3, c4, c5, c6, c7, c8, c9, c10, c11, c12⟩ := row13 (unhide R7)
  replace hMok := hide hMok
  replace sok := hide sok
  go_wp2_with fail
  go_fit (unhide EBR _)
  rintro r w4 ⟨v, rfl, hv, hb⟩
  replace R5 := hide (row_next hb (unhide R5))
  replace R6 := hide (row_next hb (unhide R6))
  replace R7 := hide (row_next hb (unhide R7))
  replace R8 := hide (row_next hb (unhide R8))
  replace R9 := hide (row_next hb (unhide R9))
  replace R10 := hide (row_next hb (unhide R10))
  replace HB := hide (below_two (unhide HB) hb)
  clear hb c0 c1 c2 c3 c4 c5 c6 c7 c8 c9 c10 c11 c12 EBR
  have hMok := unhide hMok
  have sok := unhide sok
  rcases hv with ⟨q, r0, g0, b0, a0, rfl, hq, hc⟩ | ⟨qp, qf, q1, q2, q3, q4, tf, rfl, hp, hf, hA, hk, hok⟩
  · have EC := hide (implCoatedPaint_any (.pointer (some ⟨b6, 0, none⟩)) (.pointer (some ⟨b8, 0, none⟩)) (.pointer (some ⟨w4.heap.size, 0, none⟩)) (.pointer (some ⟨b9, 0, none⟩)) (fun q j s => inkD mode fade (atI a b c d g q j) (colorAtC ⟨pk, ⟨pr, pg, pb, pa⟩, ⟨pr2, pg2, pb2, pa2⟩, pfx, pfy, ptx, pty⟩ q j) s) x y f ao n ca sok hca hao (w4.alloc (.cells #[.func (.func 99) #[] #[.pointer (some ⟨q, 0, none⟩)]] 63)) (fun i hi => (unhide P i hi).next (below_two (unhide HB) (al1_below _ _))) (fun u q_ j z0 z1 z2 z3 hu hq_ hj => by
      have hu4 := below_two (al1_below w4 (.cells #[.func (.func 99) #[] #[.pointer (some ⟨q, 0, none⟩)]] 63)) hu
      exact implPaint1Even_any (.pointer (some ⟨q, 0, none⟩)) b6 b8 w4.heap.size b9 a b c d g bo m cb hm hcb hMok mode fade q_ j (colorAtC ⟨pk, ⟨pr, pg, pb, pa⟩, ⟨pr2, pg2, pb2, pa2⟩, pfx, pfy, ptx, pty⟩ q_ j) z0 z1 z2 z3 u (row_next hu4 (unhide R6)) (cell1_row' (row_next hu4 (unhide R8))) (cell1_row' (row_next hu (new_row _ _))) (cell1_row' (row_next hu4 (unhide R9))) (fun i hi => (unhide Q i hi).next (below_two (unhide HB) hu4)) (fun v hv => by
        have hv4 := below_two hu4 hv
        have E := implEven1_any q r0 g0 b0 a0 q_ j v (row_next hv4 hq); rw [hc q_ j]; exact E)))
    replace R5 := hide (row_next (al1_below w4 (.cells #[.func (.func 99) #[] #[.pointer (some ⟨q, 0, none⟩)]] 63)) (unhide R5))
    replace R10 := hide (row_next (al1_below w4 (.cells #[.func (.func 99) #[] #[.pointer (some ⟨q, 0, none⟩)]] 63)) (unhide R10))
    replace HB := hide (below_two (unhide HB) (al1_below w4 (.cells #[.func (.func 99) #[] #[.pointer (some ⟨q, 0, none⟩)]] 63)))
    rw [← unhide hFx] at EC
    clear hFx sok hMok R6 R7 R8 R9
    obtain ⟨p0, p1, p2⟩ := row3 (unhide R5)
    go_wp2_with fail
    go_fit (unhide EC)
    rintro r w9 ⟨gp, gc, rfl, hO, hb⟩
    have lW := hide (unhide HB).size
    have l10 := hide (heap_lt (unhide R10))
    replace R10 := hide (row_next hb (unhide R10))
    replace HB := hide (below_two (unhide HB) hb)
    clear hb p0 p1 p2 EC
    replace hO := hide hO
    obtain ⟨e0, e1, e2⟩ := row3 (unhide R10)
    obtain ⟨f0, f1, f2⟩ := frozen3 (unhide R10)
    go_wp2_with fail
    refine bodyPost_ret (v := .agg #[.int .i64 x, .int .i64 y, .slice gp n gc]) (by simp [results, Tryz.results9, go_sem, e0, e1, e2]) rfl ⟨gp, gc, rfl, ?_, below_put3 (unhide HB) (unhide lz) _ _ _⟩
    obtain ⟨xs, o1, hx1⟩ := unhide hO
    exact ⟨xs, own_low (own_put3 o1 (fun k hk => by have := (o1.lt k hk).1; have := unhide l10; omega) _ _ _) (unhide lW), hx1⟩
  · have h3 := slope_bd (p := ⟨pk, ⟨pr, pg, pb, pa⟩, ⟨pr2, pg2, pb2, pa2⟩, pfx, pfy, ptx, pty⟩) hk hok
    have hc : ∀ x y : Int, colorAtC ⟨pk, ⟨pr, pg, pb, pa⟩, ⟨pr2, pg2, pb2, pa2⟩, pfx, pfy, ptx, pty⟩ x y = laidC (mixC ⟨pr, pg, pb, pa⟩ ⟨pr2, pg2, pb2, pa2⟩ (slopeI pfx pfy ptx pty x y)) := fun x y => by
      unfold colorAtC partI
      rw [if_pos hok, if_neg (by show ¬ pk = 1; omega), if_pos ⟨hk, hok⟩]; rfl
    have EC := hide (implCoatedPaint_any (.pointer (some ⟨b6, 0, none⟩)) (.pointer (some ⟨b8, 0, none⟩)) (.pointer (some ⟨w4.heap.size, 0, none⟩)) (.pointer (some ⟨b9, 0, none⟩)) (fun q j s => inkD mode fade (atI a b c d g q j) (colorAtC ⟨pk, ⟨pr, pg, pb, pa⟩, ⟨pr2, pg2, pb2, pa2⟩, pfx, pfy, ptx, pty⟩ q j) s) x y f ao n ca sok hca hao (w4.alloc (.cells #[.func (.func 70) #[] #[.pointer (some ⟨qp, 0, none⟩), .pointer (some ⟨qf, 0, none⟩)]] 63)) (fun i hi => (unhide P i hi).next (below_two (unhide HB) (al1_below _ _))) (fun u q_ j z0 z1 z2 z3 hu hq_ hj => by
      have hu4 := below_two (al1_below w4 (.cells #[.func (.func 70) #[] #[.pointer (some ⟨qp, 0, none⟩), .pointer (some ⟨qf, 0, none⟩)]] 63)) hu
      exact implPaint1Slope_any (.pointer (some ⟨qp, 0, none⟩)) (.pointer (some ⟨qf, 0, none⟩)) b6 b8 w4.heap.size b9 a b c d g bo m cb hm hcb hMok mode fade q_ j (colorAtC ⟨pk, ⟨pr, pg, pb, pa⟩, ⟨pr2, pg2, pb2, pa2⟩, pfx, pfy, ptx, pty⟩ q_ j) z0 z1 z2 z3 u (row_next hu4 (unhide R6)) (cell1_row' (row_next hu4 (unhide R8))) (cell1_row' (row_next hu (new_row _ _))) (cell1_row' (row_next hu4 (unhide R9))) (fun i hi => (unhide Q i hi).next (below_two (unhide HB) hu4)) (fun v hv => by
        have hv4 := below_two hu4 hv
        rw [hc q_ j]; exact implBrush1_any qp qf q1 q2 q3 q4 pk pr pg pb pa pr2 pg2 pb2 pa2 pfx pfy ptx pty q_ j h3.2.2.2.2.2.1 h3.2.2.2.2.2.2 h3.1 h3.2.1 h3.2.2.1 h3.2.2.2.1 v (row_next hv4 hp) (row_next hv4 hf) (hA.next hv4))))
    replace R5 := hide (row_next (al1_below w4 (.cells #[.func (.func 70) #[] #[.pointer (some ⟨qp, 0, none⟩), .pointer (some ⟨qf, 0, none⟩)]] 63)) (unhide R5))
    replace R10 := hide (row_next (al1_below w4 (.cells #[.func (.func 70) #[] #[.pointer (some ⟨qp, 0, none⟩), .pointer (some ⟨qf, 0, none⟩)]] 63)) (unhide R10))
    replace HB := hide (below_two (unhide HB) (al1_below w4 (.cells #[.func (.func 70) #[] #[.pointer (some ⟨qp, 0, none⟩), .pointer (some ⟨qf, 0, none⟩)]] 63)))
    rw [← unhide hFx] at EC
    clear hFx sok hMok R6 R7 R8 R9
    obtain ⟨p0, p1, p2⟩ := row3 (unhide R5)
    go_wp2_with fail
    go_fit (unhide EC)
    rintro r w9 ⟨gp, gc, rfl, hO, hb⟩
    have lW := hide (unhide HB).size
    have l10 := hide (heap_lt (unhide R10))
    replace R10 := hide (row_next hb (unhide R10))
    replace HB := hide (below_two (unhide HB) hb)
    clear hb p0 p1 p2 EC
    replace hO := hide hO
    obtain ⟨e0, e1, e2⟩ := row3 (unhide R10)
    obtain ⟨f0, f1, f2⟩ := frozen3 (unhide R10)
    go_wp2_with fail
    refine bodyPost_ret (v := .agg #[.int .i64 x, .int .i64 y, .slice gp n gc]) (by simp [results, Tryz.results9, go_sem, e0, e1, e2]) rfl ⟨gp, gc, rfl, ?_, below_put3 (unhide HB) (unhide lz) _ _ _⟩
    obtain ⟨xs, o1, hx1⟩ := unhide hO
    exact ⟨xs, own_low (own_put3 o1 (fun k hk => by have := (o1.lt k hk).1; have := unhide l10; omega) _ _ _) (unhide lW), hx1⟩
end Go.Proofs.YtngnleoggblinaaGreat

/-
  FnPaintsOn, at the program's own contracts.
-/
namespace Go.Proofs.YtngnleoggblinaaGreat
open Go.RowKit

theorem fnPaintsOn_walk (a0 : Option Addr) (len0 cap0 : Nat) (z0 : List Int) (w : World) (w0 : IsRow .u8 w a0 len0 cap0 z0) :
    Calls Tryz.prog 3 #[.slice a0 len0 cap0] w fun e w' => e = .returned (.bool true) ∧ Below w.heap.size w w' :=
  fnPaintsOn_of implPaintMask_any implSurfaceOk_any implPixelAt_any implSameSurface_any a0 len0 cap0 z0 w w0
end Go.Proofs.YtngnleoggblinaaGreat
