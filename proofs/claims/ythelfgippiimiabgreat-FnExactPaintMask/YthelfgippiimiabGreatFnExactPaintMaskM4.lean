/-
  MaskS · MaskG · WindS · SurfM · MaskL: texts of one claim, in one.
-/
import Derived.Test.YthelfgippiimiabGreatFnExactPaintMaskM3
import Derived.Test.YthelfgippiimiabGreatFnExactPaintMaskM1
import Derived.Laws.StructEq
import Derived.Deep.DeepFit
import Derived.Test.YthelfgippiimiabGreatFnExactPaintMaskM2
import Derived.Deep.AppendLies
import Derived.Deep.RegionHeld3
import Derived.Deep.DeepCutAuto

/-
  The specification's masks: boxes that they may have, right ones, the bits of a square. (By masks.py.)
-/
namespace Go.Proofs.YthelfgippiimiabGreat
open Go.RowKit
set_option linter.unusedVariables false

theorem row5m {w1 : World} {b : Nat} {x0 x1 x2 x3 x4 : Value} {t : TypeId} (h : w1.heap[b]? = some (.cells #[x0, x1, x2, x3, x4] t (0, 0))) : w1.cell? ⟨b, 0, none⟩ = some x0 ∧ w1.cell? ⟨b, 1, none⟩ = some x1 ∧ w1.cell? ⟨b, 2, none⟩ = some x2 ∧ w1.cell? ⟨b, 3, none⟩ = some x3 ∧ w1.cell? ⟨b, 4, none⟩ = some x4 := by
  refine ⟨?_, ?_, ?_, ?_, ?_⟩ <;> simp [World.cell?, h]

theorem ret_i {a b : Int} (h : a = b) : Ending.returned (.int .i64 a) = .returned (.int .i64 b) := by rw [h]

set_option maxHeartbeats 4000000 in
set_option maxRecDepth 100000 in
theorem specL11Box_any (a b c d : Int) (w : World) :
    Calls Tryz.prog 79 #[.agg #[.int .i64 a, .int .i64 b, .int .i64 c, .int .i64 d]] w fun r w' => r = .returned (.bool (boxInB a b c d)) ∧ Below w.heap.size w w' := by
  have E0 := hide (specEmpty_any a b c d)
  have EA := hide (l01In_any a (-2000) 2000)
  have EB := hide (l01In_any b (-2000) 2000)
  have EC := hide (l01In_any c (-2000) 2000)
  have ED := hide (l01In_any d (-2000) 2000)
  have H : Hid ((!emptyB a b c d && (inB a (-2000) 2000 && (inB b (-2000) 2000 && (inB c (-2000) 2000 && (inB d (-2000) 2000 && (decide (c - a ≤ 60) && decide (d - b ≤ 60))))))) = boxInB a b c d) := rfl
  have w1 : Hid (inB a (-2000) 2000 = true → inB c (-2000) 2000 = true → IntKind.i64.wrap (c - a) = c - a) := fun h1 h2 => by
    rw [inB_true] at h1 h2; exact IntWalk.i64_in _ (by omega)
  have w2 : Hid (inB b (-2000) 2000 = true → inB d (-2000) 2000 = true → IntKind.i64.wrap (d - b) = d - b) := fun h1 h2 => by
    rw [inB_true] at h1 h2; exact IntWalk.i64_in _ (by omega)
  generalize emptyB a b c d = e0 at E0 H
  generalize inB a (-2000) 2000 = i1 at EA H w1
  generalize inB b (-2000) 2000 = i2 at EB H w2
  generalize inB c (-2000) 2000 = i3 at EC H w1
  generalize inB d (-2000) 2000 = i4 at ED H w2
  generalize boxInB a b c d = X at H ⊢
  go_enter Tryz.func79, Tryz.ntmps79
  go_upto_region 1 with fail
  have R := hide (new_row w (.cells #[.int .i64 a, .int .i64 b, .int .i64 c, .int .i64 d] 43))
  have HB := hide (al1_below w (.cells #[.int .i64 a, .int .i64 b, .int .i64 c, .int .i64 d] 43))
  obtain ⟨b1, hb1⟩ : ∃ b, Hid (b = w.heap.size) := ⟨_, rfl⟩
  rw [← unhide hb1] at R
  rw [← unhide hb1]
  generalize w.alloc (.cells #[.int .i64 a, .int .i64 b, .int .i64 c, .int .i64 d] 43) = W at R HB ⊢
  obtain ⟨r0, r1, r2, r3⟩ := row4 (unhide R)
  go_wp2_with fail
  go_fit (unhide E0 _)
  rintro r u1 ⟨rfl, hb⟩
  replace R := hide (row_next hb (unhide R))
  replace HB := hide (below_two (unhide HB) hb)
  clear hb r0 r1 r2 r3
  obtain ⟨r0, r1, r2, r3⟩ := row4 (unhide R)
  cases e0 with
  | true =>
    go_wp2_with fail
    go_ret
    exact ⟨ret_bool (unhide H), unhide HB⟩
  | false =>
    go_wp2_with fail
    go_fit (unhide EA _)
    rintro r u2 ⟨rfl, rfl⟩
    cases i1 with
    | false =>
      go_wp2_with fail
      go_ret
      exact ⟨ret_bool (unhide H), unhide HB⟩
    | true =>
      go_wp2_with fail
      go_fit (unhide EB _)
      rintro r u2 ⟨rfl, rfl⟩
      cases i2 with
      | false =>
        go_wp2_with fail
        go_ret
        exact ⟨ret_bool (unhide H), unhide HB⟩
      | true =>
        go_wp2_with fail
        go_fit (unhide EC _)
        rintro r u2 ⟨rfl, rfl⟩
        cases i3 with
        | false =>
          go_wp2_with fail
          go_ret
          exact ⟨ret_bool (unhide H), unhide HB⟩
        | true =>
          go_wp2_with fail
          go_fit (unhide ED _)
          rintro r u2 ⟨rfl, rfl⟩
          cases i4 with
          | false =>
            go_wp2_with fail
            go_ret
            exact ⟨ret_bool (unhide H), unhide HB⟩
          | true =>
            have w1' := unhide w1 (by trivial) (by trivial)
            have w2' := unhide w2 (by trivial) (by trivial)
            by_cases h1 : c - a ≤ 60
            · have hX : Hid ((decide (c - a ≤ 60) && decide (d - b ≤ 60)) = X) := unhide H
              rw [decide_eq_true h1] at hX
              go_wp2_with fail
              go_ret
              exact ⟨ret_bool (unhide hX), unhide HB⟩
            · have hX : Hid ((decide (c - a ≤ 60) && decide (d - b ≤ 60)) = X) := unhide H
              rw [decide_eq_false h1] at hX
              go_wp2_with fail
              go_ret
              exact ⟨ret_bool (unhide hX), unhide HB⟩

theorem mok_zero {a b c d : Int} {f : Nat → Int} : MOk a b c d 0 f ↔ a = 0 ∧ b = 0 ∧ c = 0 ∧ d = 0 :=
  ⟨fun h => by rcases h with ⟨_, h⟩ | ⟨h, _⟩; exact h; omega, fun h => .inl ⟨rfl, h⟩⟩
theorem mok_some {a b c d : Int} {n : Nat} {f : Nat → Int} (hn : n ≠ 0) : MOk a b c d n f ↔ boxInB a b c d = true ∧ n = sqN a b c d ∧ ∀ i, i < n → inB (f i) 0 15 = true :=
  ⟨fun h => by rcases h with ⟨h, _⟩ | ⟨_, h⟩; exact absurd h hn; exact h, fun h => .inr ⟨by omega, h⟩⟩
theorem bits_more {f : Nat → Int} {k : Nat} (h : ∀ j, j < k → inB (f j) 0 15 = true) (hk : inB (f k) 0 15 = true) : ∀ j, j < k + 1 → inB (f j) 0 15 = true := by
  intro j hj
  by_cases e : j = k
  · subst e; exact hk
  · exact h j (by omega)
theorem eqZero_yes (w : World) : (binOp .eql 43 (.agg #[.int .i64 0, .int .i64 0, .int .i64 0, .int .i64 0]) (.agg #[.int .i64 0, .int .i64 0, .int .i64 0, .int .i64 0])).run Tryz.prog w = .ok (.bool true) w := by kernel_rfl
theorem eqZero_d (w : World) (d : Int) (h : ¬ d = 0) : (binOp .eql 43 (.agg #[.int .i64 0, .int .i64 0, .int .i64 0, .int .i64 d]) (.agg #[.int .i64 0, .int .i64 0, .int .i64 0, .int .i64 0])).run Tryz.prog w = .ok (.bool false) w := by
  cases d with
  | ofNat n =>
    cases n with
    | zero => exact absurd rfl h
    | succ n => kernel_rfl
  | negSucc n => kernel_rfl
theorem eqZero_no (w : World) (a b c d : Int) (h : ¬ (a = 0 ∧ b = 0 ∧ c = 0 ∧ d = 0)) : (binOp .eql 43 (.agg #[.int .i64 a, .int .i64 b, .int .i64 c, .int .i64 d]) (.agg #[.int .i64 0, .int .i64 0, .int .i64 0, .int .i64 0])).run Tryz.prog w = .ok (.bool false) w := by
  by_cases ha : a = 0
  · subst ha
    by_cases hb : b = 0
    · subst hb
      by_cases hc : c = 0
      · subst hc
        exact eqZero_d w d (fun hd => h ⟨rfl, rfl, rfl, hd⟩)
      · cases c with
        | ofNat n =>
          cases n with
          | zero => exact absurd rfl hc
          | succ n => kernel_rfl
        | negSucc n => kernel_rfl
    · cases b with
      | ofNat n =>
        cases n with
        | zero => exact absurd rfl hb
        | succ n => kernel_rfl
      | negSucc n => kernel_rfl
  · cases a with
    | ofNat n =>
      cases n with
      | zero => exact absurd rfl ha
      | succ n => kernel_rfl
    | negSucc n => kernel_rfl

attribute [local go_sem ↓] eqZero_yes eqZero_no in
set_option maxHeartbeats 4000000 in
set_option maxRecDepth 100000 in
theorem specMaskOk_any (a b c d : Int) (f : Nat → Int) (ao : Option Addr) (n cp : Nat) (hn : n ≤ 1048576) (w : World) (P : ∀ i, i < n → IntAt w ao i (f i)) :
    Calls Tryz.prog 35 #[.agg #[.int .i64 a, .int .i64 b, .int .i64 c, .int .i64 d, .slice ao n cp]] w fun r w' => r = .returned (.bool (maskOkB a b c d n f)) ∧ Below w.heap.size w w' := by
  have EB := hide (specL11Box_any a b c d)
  replace P := hide P
  by_cases h0 : n = 0
  · subst h0
    by_cases hz : a = 0 ∧ b = 0 ∧ c = 0 ∧ d = 0
    · rw [maskOk_iff.2 (mok_zero.2 hz)]
      obtain ⟨rfl, rfl, rfl, rfl⟩ := hz
      go_enter Tryz.func35, Tryz.ntmps35
      go_wp2_with fail
      go_ret
      exact ⟨rfl, al1_below _ _⟩
    · rw [maskOk_no (fun h => hz (mok_zero.1 h))]
      go_enter Tryz.func35, Tryz.ntmps35
      go_wp2_with fail
      go_ret
      exact ⟨rfl, al1_below _ _⟩
  have h0i : ((n : Int) == 0) = false := beq_eq_false_iff_ne.2 (by omega)
  have hmo : Hid (MOk a b c d n f ↔ boxInB a b c d = true ∧ n = sqN a b c d ∧ ∀ i, i < n → inB (f i) 0 15 = true) := mok_some h0
  have hyes : Hid (MOk a b c d n f → maskOkB a b c d n f = true) := fun h => maskOk_iff.2 h
  have hno : Hid (¬ MOk a b c d n f → maskOkB a b c d n f = false) := fun h => maskOk_no h
  generalize maskOkB a b c d n f = X at hyes hno ⊢
  generalize MOk a b c d n f = M at hyes hno hmo
  have hsq : Hid (boxInB a b c d = true → (n = sqN a b c d ↔ (n : Int) = (c - a) * (d - b)) ∧ IntKind.i64.wrap (c - a) = c - a ∧ IntKind.i64.wrap (d - b) = d - b ∧ IntKind.i64.wrap ((c - a) * (d - b)) = (c - a) * (d - b)) := fun h => by
    have e := sqN_int h
    have e2 := (sqN_le h).1
    obtain ⟨_, _, _, _, _, _, _, _⟩ := boxIn_iff.1 h
    refine ⟨by rw [← e]; omega, IntWalk.i64_in _ (by omega), IntWalk.i64_in _ (by omega), IntWalk.i64_in _ (by rw [← e]; omega)⟩
  generalize sqN a b c d = sq at hmo hsq
  generalize boxInB a b c d = bi at EB hmo hsq
  go_enter Tryz.func35, Tryz.ntmps35
  go_upto_region 1 with fail
  have R := hide (new_row w (.cells #[.int .i64 a, .int .i64 b, .int .i64 c, .int .i64 d, .slice ao n cp] 45))
  have HB := hide (al1_below w (.cells #[.int .i64 a, .int .i64 b, .int .i64 c, .int .i64 d, .slice ao n cp] 45))
  obtain ⟨b1, hb1⟩ : ∃ b, Hid (b = w.heap.size) := ⟨_, rfl⟩
  rw [← unhide hb1] at R
  rw [← unhide hb1]
  generalize w.alloc (.cells #[.int .i64 a, .int .i64 b, .int .i64 c, .int .i64 d, .slice ao n cp] 45) = W at R HB ⊢
  obtain ⟨r0, r1, r2, r3, r4⟩ := row5m (unhide R)
  go_wp2_with fail
  go_fit (unhide EB _)
  rintro r u1 ⟨rfl, hb⟩
  replace R := hide (row_next hb (unhide R))
  replace HB := hide (below_two (unhide HB) hb)
  clear hb r0 r1 r2 r3 r4
  obtain ⟨r0, r1, r2, r3, r4⟩ := row5m (unhide R)
  cases bi with
  | false =>
    have hX := hide (unhide hno (fun h => by have := (unhide hmo).1 h; cases this.1))
    go_wp2_with fail
    go_ret
    exact ⟨ret_bool (unhide hX).symm, unhide HB⟩
  | true =>
    obtain ⟨hs1, w1, w2, w3⟩ := unhide hsq rfl
    replace hs1 := hide hs1
    clear hsq
    by_cases hq : (n : Int) = (c - a) * (d - b)
    · have hq1 := hide hq
      have hqb : ((n : Int) == (c - a) * (d - b)) = true := beq_iff_eq.2 hq
      rw [← hq] at w3
      go_upto_region 5 with fail
      go_wp2_with fail
      clear r0 r1 r2 r3 r4 w1 w2 w3 hqb hq
      go_loopw [3] (fun i u => ∃ k : Nat, k ≤ n ∧ i = .int .i64 k ∧ Hid (∀ j, j < k → inB (f j) 0 15 = true) ∧ Hid (Below w.heap.size w u) ∧ Hid (u.heap[b1]? = some (.cells #[.int .i64 a, .int .i64 b, .int .i64 c, .int .i64 d, .slice ao n cp] 45 (0, 0)))) (fun i _ => n - (intOf i).toNat)
      case atStart => exact ⟨0, Nat.zero_le _, rfl, fun j hj => absurd hj (by omega), HB, R⟩
      case round =>
        clear HB R
        obtain ⟨k, hk, rfl, HK, HB, R⟩ := hrel
        obtain ⟨r0, r1, r2, r3, r4⟩ := row5m (unhide R)
        by_cases hlt : k < n
        · obtain ⟨s0, o0, rfl, g0⟩ := (unhide P k hlt).next (unhide HB)
          have EI := hide (l01In_any (f k) 0 15)
          obtain ⟨z, hz⟩ : ∃ z, Hid (f k = z) := ⟨_, rfl⟩
          rw [unhide hz] at g0 EI
          have hki : (k : Int) < (n : Int) := by omega
          cases hi : inB z 0 15 with
          | false =>
            rw [hi] at EI
            have hX := hide (unhide hno (fun h => by have := ((unhide hmo).1 h).2.2 k hlt; rw [unhide hz, hi] at this; cases this))
            clear hi
            go_wp2_with fail
            go_fit (unhide EI _)
            rintro r u2 ⟨rfl, rfl⟩
            go_wp2_with fail
            go_ret
            exact ⟨ret_bool (unhide hX).symm, unhide HB⟩
          | true =>
            rw [hi] at EI
            have HK2 : Hid (∀ j, j < k + 1 → inB (f j) 0 15 = true) := bits_more (unhide HK) (by rw [unhide hz]; exact hi)
            clear hi
            go_wp2_with fail
            go_fit (unhide EI _)
            rintro r u2 ⟨rfl, rfl⟩
            go_wp2_with fail
            go_roundw
            case rel => exact ⟨k + 1, by omega, by go_num, HK2, HB, R⟩
            case measure => simp [intOf]; omega
        · have hke : k = n := by omega
          subst hke
          have hki : ¬ (k : Int) < (k : Int) := by omega
          have hX := hide (unhide hyes ((unhide hmo).2 ⟨by trivial, (unhide hs1).2 (unhide hq1), unhide HK⟩))
          go_wp2_with fail
          go_ret
          exact ⟨ret_bool (unhide hX).symm, unhide HB⟩
    · have hX := hide (unhide hno (fun h => hq ((unhide hs1).1 ((unhide hmo).1 h).2.1)))
      have hqb : ((n : Int) == (c - a) * (d - b)) = false := beq_eq_false_iff_ne.2 hq
      go_wp2_with fail
      go_ret
      exact ⟨ret_bool (unhide hX).symm, unhide HB⟩

set_option maxHeartbeats 4000000 in
set_option maxRecDepth 100000 in
theorem specL11Bits_any (a b c d : Int) (f : Nat → Int) (ao : Option Addr) (n cp : Nat) (hn : n ≤ 1048576) (x y : Int) (w : World) (P : ∀ i, i < n → IntAt w ao i (f i)) (hM : MOk a b c d n f) :
    Calls Tryz.prog 37 #[.agg #[.int .i64 a, .int .i64 b, .int .i64 c, .int .i64 d, .slice ao n cp], .int .i64 x, .int .i64 y] w fun r w' => r = .returned (.int .i64 (atI a b c d f x y)) ∧ Below w.heap.size w w' := by
  have EI := hide (specInBox_any a b c d x y)
  have hA : Hid (atI a b c d f x y = if inBoxB a b c d x y = true then f (placeI a b c x y).toNat else 0) := rfl
  have hin : Hid (inBoxB a b c d x y = true → boxInB a b c d = true ∧ n = sqN a b c d ∧ 0 ≤ placeI a b c x y ∧ placeI a b c x y < (n : Int) ∧ (a ≤ x ∧ x < c ∧ b ≤ y ∧ y < d)) := fun h => by
    have hi := h
    simp only [inBoxB, Bool.and_eq_true, decide_eq_true_eq] at hi
    rcases hM with ⟨_, rfl, rfl, rfl, rfl⟩ | ⟨_, h1, h2, _⟩
    · omega
    · obtain ⟨p1, p2⟩ := place_bd h1 h
      exact ⟨h1, h2, p1, by omega, hi⟩
  replace P := hide P
  clear hM
  generalize inBoxB a b c d x y = ib at EI hA hin
  generalize atI a b c d f x y = V at hA ⊢
  go_enter Tryz.func37, Tryz.ntmps37
  go_upto_region 2 with fail
  have R3 := hide (al2_0 w (.cells #[.int .i64 a, .int .i64 b, .int .i64 c, .int .i64 d, .slice ao n cp] 45) (.cells #[.int .i64 a, .int .i64 b, .int .i64 c, .int .i64 d] 43))
  have R7 := hide (al2_1 w (.cells #[.int .i64 a, .int .i64 b, .int .i64 c, .int .i64 d, .slice ao n cp] 45) (.cells #[.int .i64 a, .int .i64 b, .int .i64 c, .int .i64 d] 43))
  have HB := hide (al2_below w (.cells #[.int .i64 a, .int .i64 b, .int .i64 c, .int .i64 d, .slice ao n cp] 45) (.cells #[.int .i64 a, .int .i64 b, .int .i64 c, .int .i64 d] 43))
  generalize w.heap.size + 1 = b7 at R7 ⊢
  obtain ⟨b3, hb3⟩ : ∃ b, Hid (b = w.heap.size) := ⟨_, rfl⟩
  rw [← unhide hb3] at R3
  rw [← unhide hb3]
  generalize (w.alloc (.cells #[.int .i64 a, .int .i64 b, .int .i64 c, .int .i64 d, .slice ao n cp] 45)).alloc (.cells #[.int .i64 a, .int .i64 b, .int .i64 c, .int .i64 d] 43) = W at R3 R7 HB ⊢
  obtain ⟨q0, q1, q2, q3⟩ := row4 (unhide R7)
  go_wp2_with fail
  go_fit (unhide EI _)
  rintro r u1 ⟨rfl, hb⟩
  replace R3 := hide (row_next hb (unhide R3))
  replace R7 := hide (row_next hb (unhide R7))
  replace HB := hide (below_two (unhide HB) hb)
  clear hb q0 q1 q2 q3
  cases ib with
  | false =>
    have hV : Hid (0 = V) := by unfold Hid; rw [unhide hA]; simp
    go_wp2_with fail
    go_ret
    exact ⟨ret_i (unhide hV), unhide HB⟩
  | true =>
    obtain ⟨h1, h2, h3, h4, h5⟩ := unhide hin (by trivial)
    clear hin
    replace hA : Hid (V = f (placeI a b c x y).toNat) := by unfold Hid; rw [unhide hA]; simp
    obtain ⟨_, _, h6, h7, h8, h9, h10, h11⟩ := boxIn_iff.1 h1
    obtain ⟨q0, q1, q2, q3⟩ := row4 (unhide R7)
    obtain ⟨r0, r1, r2, r3, r4⟩ := row5m (unhide R3)
    obtain ⟨j, hj⟩ : ∃ j : Nat, placeI a b c x y = (j : Int) := ⟨(placeI a b c x y).toNat, by omega⟩
    rw [hj] at h3 h4 hA
    have hjn : j < n := by omega
    have e0 : ((j : Int)).toNat = j := by omega
    rw [e0] at hA
    unfold placeI at hj
    have m1 : 0 ≤ (y - b) * (c - a) ∧ (y - b) * (c - a) ≤ 3600 := by
      have := mul_bd (A := 60) (X := 60) (a := y - b) (x := c - a) (by omega) (by omega) (by omega) (by omega)
      have := Int.mul_nonneg (a := y - b) (b := c - a) (by omega) (by omega)
      omega
    have v1 : IntKind.i64.wrap (y - b) = y - b := IntWalk.i64_in _ (by omega)
    have v2 : IntKind.i64.wrap (c - a) = c - a := IntWalk.i64_in _ (by omega)
    have v3 : IntKind.i64.wrap ((y - b) * (c - a)) = (y - b) * (c - a) := IntWalk.i64_in _ (by omega)
    have v4 : IntKind.i64.wrap ((y - b) * (c - a) + x) = (y - b) * (c - a) + x := IntWalk.i64_in _ (by omega)
    have v5 : IntKind.i64.wrap ((y - b) * (c - a) + x - a) = (j : Int) := by rw [← hj]; exact IntWalk.i64_in _ (by omega)
    obtain ⟨s0, o0, rfl, g0⟩ := (unhide P j hjn).next (unhide HB)
    clear h1 h2 h5 h6 h7 h8 h9 h10 h11 m1 hj e0
    go_wp2_with fail
    go_ret
    exact ⟨ret_i (unhide hA).symm, unhide HB⟩

set_option maxHeartbeats 4000000 in
theorem specBitsAt_any (a b c d : Int) (f : Nat → Int) (ao : Option Addr) (n cp : Nat) (hn : n ≤ 1048576) (x y : Int) (w : World) (P : ∀ i, i < n → IntAt w ao i (f i)) :
    Calls Tryz.prog 23 #[.agg #[.int .i64 a, .int .i64 b, .int .i64 c, .int .i64 d, .slice ao n cp], .int .i64 x, .int .i64 y] w fun r w' => r = .returned (.int .i64 (bitsI a b c d n f x y)) ∧ Below w.heap.size w w' := by
  have EM := hide (fun u P => specMaskOk_any a b c d f ao n cp hn u P)
  have EL := hide (fun (h : maskOkB a b c d n f = true) u P => specL11Bits_any a b c d f ao n cp hn x y u P (maskOk_iff.1 h))
  have hB : Hid (bitsI a b c d n f x y = if maskOkB a b c d n f = true then atI a b c d f x y else 0) := rfl
  replace P := hide P
  generalize maskOkB a b c d n f = mo at EM EL hB
  generalize bitsI a b c d n f x y = V at hB ⊢
  generalize atI a b c d f x y = A at EL hB
  go_enter Tryz.func23, Tryz.ntmps23
  go_upto_region 1 with fail
  have R := hide (new_row w (.cells #[.int .i64 a, .int .i64 b, .int .i64 c, .int .i64 d, .slice ao n cp] 45))
  have HB := hide (al1_below w (.cells #[.int .i64 a, .int .i64 b, .int .i64 c, .int .i64 d, .slice ao n cp] 45))
  obtain ⟨b1, hb1⟩ : ∃ b, Hid (b = w.heap.size) := ⟨_, rfl⟩
  rw [← unhide hb1] at R
  rw [← unhide hb1]
  generalize w.alloc (.cells #[.int .i64 a, .int .i64 b, .int .i64 c, .int .i64 d, .slice ao n cp] 45) = W at R HB ⊢
  obtain ⟨r0, r1, r2, r3, r4⟩ := row5m (unhide R)
  have EM1 := hide (unhide EM W (fun i hi => (unhide P i hi).next (unhide HB)))
  go_wp2_with fail
  go_fit (unhide EM1)
  rintro r u1 ⟨rfl, hb⟩
  replace R := hide (row_next hb (unhide R))
  replace HB := hide (below_two (unhide HB) hb)
  clear hb r0 r1 r2 r3 r4
  cases mo with
  | false =>
    have hV : Hid (0 = V) := by unfold Hid; rw [unhide hB]; simp
    go_wp2_with fail
    go_ret
    exact ⟨ret_i (unhide hV), unhide HB⟩
  | true =>
    have hV : Hid (A = V) := by unfold Hid; rw [unhide hB]; simp
    have EL1 := hide (unhide EL (by trivial) u1 (fun i hi => (unhide P i hi).next (unhide HB)))
    obtain ⟨r0, r1, r2, r3, r4⟩ := row5m (unhide R)
    go_wp2_with fail
    go_fit (unhide EL1)
    rintro r u2 ⟨rfl, hb⟩
    go_wp2_with fail
    go_ret
    exact ⟨ret_i (unhide hV), below_two (unhide HB) hb⟩
end Go.Proofs.YthelfgippiimiabGreat

/-
  A mask while its bits are appended; a mask that a call hands back.
-/
namespace Go.Proofs.YthelfgippiimiabGreat
open Go.RowKit
set_option linter.unusedVariables false

/-- A call hands back a mask of its own. -/
def MaskRes (w : World) (r : Ending) (w' : World) (a b c d : Int) (n : Nat) (f : Nat → Int) : Prop :=
  ∃ p cp, r = .returned (.agg #[.int .i64 a, .int .i64 b, .int .i64 c, .int .i64 d, .slice p n cp]) ∧ w'.ownsRow w.heap.size 3 1 (.slice p n cp) n ((listN f n).map Iv) ∧ Below w.heap.size w w'
theorem listN_congr {α : Type} {f g : Nat → α} {n : Nat} (h : ∀ i, i < n → f i = g i) : listN f n = listN g n := by
  unfold listN; exact List.map_congr_left (fun i hi => h i (List.mem_range.1 hi))
theorem MaskRes.congr {w w' : World} {r : Ending} {a b c d : Int} {n : Nat} {f g : Nat → Int} (h : MaskRes w r w' a b c d n f) (e : ∀ i, i < n → f i = g i) : MaskRes w r w' a b c d n g := by
  unfold MaskRes at h ⊢; rw [listN_congr e] at h; exact h
theorem frozen5 {w1 : World} {b : Nat} {x0 x1 x2 x3 x4 : Value} {t : TypeId} (h : w1.heap[b]? = some (.cells #[x0, x1, x2, x3, x4] t (0, 0))) : w1.frozen? ⟨b, 0, none⟩ = false ∧ w1.frozen? ⟨b, 1, none⟩ = false ∧ w1.frozen? ⟨b, 2, none⟩ = false ∧ w1.frozen? ⟨b, 3, none⟩ = false ∧ w1.frozen? ⟨b, 4, none⟩ = false := by
  refine ⟨?_, ?_, ?_, ?_, ?_⟩ <;> simp [World.frozen?, h]
theorem set5_4 {u : World} {b : Nat} {x0 x1 x2 x3 x4 v : Value} {t : TypeId} (h : u.heap[b]? = some (.cells #[x0, x1, x2, x3, x4] t (0, 0))) : (u.setCell ⟨b, 4, none⟩ v).heap[b]? = some (.cells #[x0, x1, x2, x3, v] t (0, 0)) := by
  simp [World.setCell, Array.getElem?_modify, h]
theorem below_put5 {B : Nat} {a w : World} (h : Below B a w) {b : Nat} (hb : B ≤ b) (x y z u v : Value) : Below B a (((((w.setCell ⟨b, 0, none⟩ x).setCell ⟨b, 1, none⟩ y).setCell ⟨b, 2, none⟩ z).setCell ⟨b, 3, none⟩ u).setCell ⟨b, 4, none⟩ v) := (below_put4 h hb x y z u).setCell (p := ⟨b, 4, none⟩) hb v
theorem own_put5 {w : World} {base e s n g : Nat} {v : Value} {xs : List Value} (h : w.ownsRow base e s v n xs) (hg : ∀ k, v.ownBlock = some k → k ≠ g) (x y z u t : Value) : (((((w.setCell ⟨g, 0, none⟩ x).setCell ⟨g, 1, none⟩ y).setCell ⟨g, 2, none⟩ z).setCell ⟨g, 3, none⟩ u).setCell ⟨g, 4, none⟩ t).ownsRow base e s v n xs :=
  own_setc_ne (own_setc_ne (own_setc_ne (own_setc_ne (own_setc_ne h hg) hg) hg) hg) hg

structure Grow (w u : World) (zb ob : Nat) (a b c d : Int) (f : Nat → Int) (k : Nat) (p : Option Addr) (cp : Nat) : Prop where
  zero : u.heap[zb]? = some (.cells #[.int .i64 0, .int .i64 0, .int .i64 0, .int .i64 0, .slice none 0 0] 45 (0, 0))
  row : u.heap[ob]? = some (.cells #[.int .i64 a, .int .i64 b, .int .i64 c, .int .i64 d, .slice p k cp] 45 (0, 0))
  own : u.ownsRow (ob + 1) 3 1 (.slice p k cp) k ((listN f k).map Iv)
  bel : Below w.heap.size w u
  size : ob + 1 ≤ u.heap.size
theorem Grow.next {w u u' : World} {zb ob : Nat} {a b c d : Int} {f : Nat → Int} {k : Nat} {p : Option Addr} {cp : Nat} (h : Grow w u zb ob a b c d f k p cp) (hb : Below u.heap.size u u') : Grow w u' zb ob a b c d f k p cp :=
  ⟨row_next hb h.zero, row_next hb h.row, own_below h.own hb, below_two h.bel hb, Nat.le_trans h.size hb.size⟩
theorem Grow.put {w u w6 : World} {zb ob : Nat} {a b c d : Int} {f : Nat → Int} {k : Nat} {p : Option Addr} {cp : Nat} (h : Grow w u zb ob a b c d f k p cp) (hw : w.heap.size ≤ ob) (hz : zb < ob) {p' : Option Addr} {cp' : Nat} {z : Int} (hzf : f k = z)
    (O6 : w6.ownsRow (ob + 1) 3 1 (.slice p' (k + 1) cp') (k + 1) ((listN f k).map Iv ++ [Iv z])) (D6 : Below (ob + 1) u w6) : Grow w (w6.setCell ⟨ob, 4, none⟩ (.slice p' (k + 1) cp')) zb ob a b c d f (k + 1) p' cp' := by
  refine ⟨setc_other (by omega) ((D6.block _ (by omega)).trans h.zero), set5_4 ((D6.block _ (Nat.lt_succ_self _)).trans h.row), ?_, ?_, ?_⟩
  · have := own_setc_ne (g := ob) (j := 4) (u := .slice p' (k + 1) cp') O6 (fun q hq => by have := (O6.lt q hq).1; omega)
    rw [listN_more, List.map_append, hzf]
    exact this
  · exact (h.bel.trans (D6.mono (by omega))).setCell (p := ⟨ob, 4, none⟩) hw _
  · rw [setc_size]; exact Nat.le_trans h.size D6.size
/-- It is handed back. -/
theorem Grow.res {w u : World} {zb ob : Nat} {a b c d : Int} {f : Nat → Int} {k : Nat} {p : Option Addr} {cp : Nat} (h : Grow w u zb ob a b c d f k p cp) (hw : w.heap.size ≤ zb) (hz : zb < ob) {v0 v1 v2 v3 v4 : Value} :
    MaskRes w (.returned (.agg #[.int .i64 a, .int .i64 b, .int .i64 c, .int .i64 d, .slice p k cp])) (((((u.setCell ⟨zb, 0, none⟩ v0).setCell ⟨zb, 1, none⟩ v1).setCell ⟨zb, 2, none⟩ v2).setCell ⟨zb, 3, none⟩ v3).setCell ⟨zb, 4, none⟩ v4) a b c d k f :=
  ⟨p, cp, rfl, own_low (own_put5 h.own (fun q hq => by have := (h.own.lt q hq).1; omega) _ _ _ _ _) (by omega), below_put5 h.bel hw _ _ _ _ _⟩
theorem mask_none {w w' : World} {f : Nat → Int} (hb : Below w.heap.size w w') : MaskRes w (.returned (.agg #[.int .i64 0, .int .i64 0, .int .i64 0, .int .i64 0, .slice none 0 0])) w' 0 0 0 0 0 f :=
  ⟨none, 0, rfl, World.ownsRow_nil _ _ _ _, hb⟩
/-- What stands in a box, or nothing. -/
def boxV (ok : Bool) (x : Int) : Int := if ok then x else 0
def boxK (ok : Bool) (n : Nat) : Nat := if ok then n else 0
/-- 'append' of one number onto an own row, as one step of a region that draws its order. -/
theorem step_append_i {P : Program} {ops : Array Oper} {o : Oper} {a : Act} {wr w5 : World} {K : Act → World → Prop} {Q : Exit → Act → World → Prop} {E : Prop} (hg : o.guard = none) (s x : Operand) (t : TypeId)
    (hop : o.op = .call { callee := .builtin .append, args := #[s, x], argTypes := #[t, t] })
    (base : Nat) (i : TypeInfo) (z0 : Value) (ht : P.underlying t = some (.slice 3)) (hi : P.info? 3 = some i) (hz : i.zero = some z0) (hsize : i.size = 1) (hby : i.bytes = 8) (hzs : z0.cells.size = 1)
    (v : Value) (n : Nat) (xs : List Value) (hs : a.eval s = v) (z : Int) (cx : Nat) (hx : a.eval x = .slice (some ⟨w5.heap.size, 0, none⟩) 1 cx)
    (hown : wr.ownsRow base 3 1 v n xs) (hn : n ≤ 1048576) (hbs : base ≤ wr.heap.size) (hd : Below wr.heap.size wr w5)
    (hK : ∀ v' w', w'.ownsRow base 3 1 v' (n + 1) (xs ++ [Iv z]) → Below base wr w' → K (a.put o.dst v') w') :
    if Region.wanted o (yielded ops a.tmps) = true then Oper.wp P o a (w5.alloc (.cells #[.int .i64 z] 3)) K Q else E := by
  refine step_append_any hg s x t 3 hop base i z0 1 8 ht hi hz hsize hby hzs (by decide) v n xs hs ((own_below hown hd).alloc _) ⟨w5.heap.size, 0, none⟩ 1 cx [Iv z] hx (by simp) (fun j u hu => World.news_of_block (al1_0 w5 _) j u (by simpa [Iv] using hu)) (fun u hu => by simp [Iv] at hu; subst hu; rfl) (by unfold maxLen; omega) (by omega) wr base (Nat.le_refl _) (by have := hd.size; simp; omega) (below_new _ (hd.mono hbs) hbs) ?_
  intro v' w' ho hb
  exact hK v' w' ho hb
end Go.Proofs.YthelfgippiimiabGreat

/-
  The specification's WindOf, Covers, MaskAt, CountOf.
-/
namespace Go.Proofs.YthelfgippiimiabGreat
open Go.RowKit
set_option linter.unusedVariables false

set_option maxHeartbeats 1000000 in
set_option maxRecDepth 100000 in
theorem specNear_any (x y : Int) (w : World) :
    Calls Tryz.prog 142 #[.agg #[.int .i64 x, .int .i64 y]] w fun e w' => e = .returned (.bool (nearB x y)) ∧ Below w.heap.size w w' := by
  have HX := hide (l01In_any x (-33554432) 33554432)
  have HY := hide (l01In_any y (-33554432) 33554432)
  have H : Hid ((inB x (-33554432) 33554432 && inB y (-33554432) 33554432) = nearB x y) := rfl
  obtain ⟨p, hp⟩ : ∃ p, p = inB x (-33554432) 33554432 := ⟨_, rfl⟩
  obtain ⟨q, hq⟩ : ∃ q, q = inB y (-33554432) 33554432 := ⟨_, rfl⟩
  rw [← hp] at HX H
  rw [← hq] at HY H
  clear hp hq
  cases p
  · go_enter Tryz.func142, Tryz.ntmps142
    go_wp2_with fail
    refine (unhide HX _).mono ?_
    rintro e w1 ⟨rfl, rfl⟩
    go_wp2_with fail
    go_ret
    exact ⟨ret_bool (unhide H), (Below.refl _ _).alloc (Nat.le_refl _) _⟩
  · go_enter Tryz.func142, Tryz.ntmps142
    go_wp2_with fail
    refine (unhide HX _).mono ?_
    rintro e w1 ⟨rfl, rfl⟩
    go_wp2_with fail
    refine (unhide HY _).mono ?_
    rintro e w2 ⟨rfl, rfl⟩
    go_wp2_with fail
    go_ret
    exact ⟨ret_bool (unhide H), (Below.refl _ _).alloc (Nat.le_refl _) _⟩

theorem not_near {n : Nat} {pf : Nat → Pt} {k : Nat} (hk : k < n) {x y : Int} (hz : pf k = (x, y)) (h : nearB x y = false) (p : Pt) : windP n pf p = 0 :=
  windP_no (fun h' => by have := h'.2 k hk; rw [hz] at this; dsimp only at this; rw [h] at this; cases this)
theorem up_three {a b p : Pt} : upB a b p = (decide (a.2 ≤ p.2) && (decide (p.2 < b.2) && decide (0 < sideI a b p))) := rfl

set_option maxHeartbeats 8000000 in
set_option maxRecDepth 100000 in
theorem specWindOf_any (pf : Nat → Pt) (la : Option Addr) (n lc : Nat) (hn : n ≤ 1048576) (x y : Int) (w : World) (P : ∀ i, i < n → PtArg w la i (pf i)) :
    Calls Tryz.prog 141 #[.slice la n lc, .agg #[.int .i64 x, .int .i64 y]] w fun e w' => e = .returned (.int .i64 (windP n pf (x, y))) ∧ Below w.heap.size w w' := by
  have EP := hide (specNear_any x y)
  replace P := hide P
  cases hp : nearB x y with
  | false =>
    rw [windP_no (fun h => by have := h.1; dsimp only at this; rw [hp] at this; cases this)]
    rw [hp] at EP
    clear hp
    go_enter Tryz.func141, Tryz.ntmps141
    go_wp2_with fail
    go_fit (unhide EP _)
    rintro r w1 ⟨rfl, hb⟩
    go_wp2_with fail
    go_ret
    exact ⟨rfl, below_two (al1_below _ _) hb⟩
  | true =>
    rw [hp] at EP
    obtain ⟨px, py⟩ := near_bd hp
    have hall : Hid (allNear n pf → windP n pf (x, y) = windN n pf (x, y) n) := fun h => windP_yes hp h
    have hno := hide (fun k (hk : k < n) (xa ya : Int) hz h => not_near (pf := pf) hk (x := xa) (y := ya) hz h (x, y))
    generalize windP n pf (x, y) = R at hall hno ⊢
    clear hp
    go_enter Tryz.func141, Tryz.ntmps141
    go_wp2_with fail
    have R3 := hide (new_row w (.cells #[.int .i64 x, .int .i64 y] 48))
    have HB := hide (al1_below w (.cells #[.int .i64 x, .int .i64 y] 48))
    generalize hb3 : w.heap.size = b3 at R3 ⊢
    generalize w.alloc (.cells #[.int .i64 x, .int .i64 y] 48) = W at R3 HB ⊢
    replace hb3 := hide hb3
    go_fit (unhide EP _)
    rintro r w1 ⟨rfl, hb⟩
    replace R3 := hide (row_next hb (unhide R3))
    replace HB := hide (below_two (unhide HB) hb)
    clear hb EP
    go_wp2_with fail
    go_loopw [5, 6] (fun s i u => ∃ k : Nat, k ≤ n ∧ i = .int .i64 k ∧ s = .int .i64 (windN n pf (x, y) k) ∧ Hid (∀ j, j < k → nearB (pf j).1 (pf j).2 = true) ∧ Hid (Below w.heap.size w u) ∧ Hid (u.heap[b3]? = some (.cells #[.int .i64 x, .int .i64 y] 48 (0, 0)))) (fun _ i _ => n - (intOf i).toNat)
    case atStart => exact ⟨0, Nat.zero_le _, rfl, rfl, fun j hj => absurd hj (by omega), HB, R3⟩
    case round =>
      clear HB R3
      obtain ⟨k, hk, rfl, rfl, HK, HB, R3⟩ := hrel
      have hS := windN_bd n pf (x, y) k
      by_cases hlt : k < n
      · have hk1 : (k + 1) % n < n := Nat.mod_lt _ (by omega)
        have hs1 : Hid (windN n pf (x, y) (k + 1) = windN n pf (x, y) k + windE (pf k) (pf ((k + 1) % n)) (x, y)) := rfl
        have Pa := (unhide P k hlt).next (unhide HB)
        have Pb := (unhide P _ hk1).next (unhide HB)
        have e1' : ((k : Int) + 1).tmod (n : Int) = (((k + 1) % n : Nat) : Int) := by rw [Int.tmod_eq_emod_of_nonneg (by omega)]; push_cast; rfl
        have hnk := unhide hno k hlt
        have hnk1 := unhide hno _ hk1
        generalize (k + 1) % n = k1 at *
        obtain ⟨za, hza⟩ : ∃ z, pf k = z := ⟨_, rfl⟩
        obtain ⟨zb, hzb⟩ : ∃ z, pf k1 = z := ⟨_, rfl⟩
        have Na := fun xa ya (h : za = (xa, ya)) => hnk xa ya (hza.trans h)
        have Nb := fun xa ya (h : zb = (xa, ya)) => hnk1 xa ya (hzb.trans h)
        rw [hza] at Pa hs1
        rw [hzb] at Pb hs1
        obtain ⟨xa, ya⟩ := za
        obtain ⟨xb, yb⟩ := zb
        replace Na := hide (Na xa ya rfl)
        replace Nb := hide (Nb xb yb rfl)
        obtain ⟨s0, o0, rfl, a0, a1⟩ := Pa
        obtain ⟨_, _, e1, b0, b1⟩ := Pb
        cases e1
        dsimp only at a0 a1 b0 b1
        have EA := hide (specNear_any xa ya)
        have EB := hide (specNear_any xb yb)
        have w1' : IntKind.i64.wrap ((k : Int) + 1) = (k : Int) + 1 := IntWalk.i64_in _ (by omega)
        have hki : (k : Int) < (n : Int) := by omega
        have hk1i : (k1 : Int) < (n : Int) := by omega
        have hn0 : ¬ n = 0 := by omega
        have hnz : ((n : Int) == 0) = false := beq_eq_false_iff_ne.2 (by omega)
        have nb0 := fun o => kn o b0
        have nb1 := fun o => kn o b1
        replace hza := hide hza
        go_upto_region 9 with fail
        obtain ⟨W2, hW⟩ : ∃ W2, W2 = (wr.alloc (.cells #[.int .i64 xa, .int .i64 ya] 48)).alloc (.cells #[.int .i64 xb, .int .i64 yb] 48) := ⟨_, rfl⟩
        have Ra := hide (show W2.heap[wr.heap.size]? = some (.cells #[.int .i64 xa, .int .i64 ya] 48 (0, 0)) by rw [hW]; exact al2_0 _ _ _)
        have Rb := hide (show W2.heap[wr.heap.size + 1]? = some (.cells #[.int .i64 xb, .int .i64 yb] 48 (0, 0)) by rw [hW]; exact al2_1 _ _ _)
        have hbw : Below wr.heap.size wr W2 := by rw [hW]; exact al2_below _ _ _
        replace R3 := hide (row_next hbw (unhide R3))
        replace HB := hide (below_two (unhide HB) hbw)
        rw [← hW]
        clear hW hbw a0 a1 b0 b1 nb0 nb1
        generalize wr.heap.size + 1 = b8 at Rb ⊢
        generalize wr.heap.size = b7 at Ra ⊢
        obtain ⟨a0, a1⟩ := row2 (unhide Ra)
        go_wp2_with fail
        go_fit (unhide EA _)
        rintro r w2 ⟨rfl, hb⟩
        replace Ra := hide (row_next hb (unhide Ra))
        replace Rb := hide (row_next hb (unhide Rb))
        replace R3 := hide (row_next hb (unhide R3))
        replace HB := hide (below_two (unhide HB) hb)
        clear hb a0 a1 EA
        cases ha : nearB xa ya with
        | false =>
          have hR := hide (unhide Na ha)
          go_wp2_with fail
          go_ret
          exact ⟨congrArg (fun z => Ending.returned (.int .i64 z)) (unhide hR).symm, unhide HB⟩
        | true =>
          obtain ⟨b0, b1⟩ := row2 (unhide Rb)
          obtain ⟨ax, ay⟩ := near_bd ha
          have hka : Hid (nearB (pf k).1 (pf k).2 = true) := by unfold Hid; rw [unhide hza]; exact ha
          clear Na ha
          go_wp2_with fail
          go_fit (unhide EB _)
          rintro r w3 ⟨rfl, hb⟩
          replace Ra := hide (row_next hb (unhide Ra))
          replace Rb := hide (row_next hb (unhide Rb))
          replace R3 := hide (row_next hb (unhide R3))
          replace HB := hide (below_two (unhide HB) hb)
          clear hb b0 b1 EB
          cases hbn : nearB xb yb with
          | false =>
            have hR := hide (unhide Nb hbn)
            go_wp2_with fail
            go_ret
            exact ⟨congrArg (fun z => Ending.returned (.int .i64 z)) (unhide hR).symm, unhide HB⟩
          | true =>
            obtain ⟨bx, byy⟩ := near_bd hbn
            clear Nb hbn
            obtain ⟨a0, a1⟩ := row2 (unhide Ra)
            obtain ⟨b0, b1⟩ := row2 (unhide Rb)
            obtain ⟨p0, p1⟩ := row2 (unhide R3)
            have m1 := mul_bd (A := 67108864) (X := 67108864) (a := xb - xa) (x := y - ya) (by omega) (by omega) (by omega) (by omega)
            have m2 := mul_bd (A := 67108864) (X := 67108864) (a := x - xa) (x := yb - ya) (by omega) (by omega) (by omega) (by omega)
            have v1 : IntKind.i64.wrap (xb - xa) = xb - xa := IntWalk.i64_in _ (by omega)
            have v2 : IntKind.i64.wrap (y - ya) = y - ya := IntWalk.i64_in _ (by omega)
            have v3 : IntKind.i64.wrap (x - xa) = x - xa := IntWalk.i64_in _ (by omega)
            have v4 : IntKind.i64.wrap (yb - ya) = yb - ya := IntWalk.i64_in _ (by omega)
            have v5 : IntKind.i64.wrap ((xb - xa) * (y - ya)) = (xb - xa) * (y - ya) := IntWalk.i64_in _ (by omega)
            have v6 : IntKind.i64.wrap ((x - xa) * (yb - ya)) = (x - xa) * (yb - ya) := IntWalk.i64_in _ (by omega)
            have v7 : IntKind.i64.wrap ((xb - xa) * (y - ya) - (x - xa) * (yb - ya)) = (xb - xa) * (y - ya) - (x - xa) * (yb - ya) := IntWalk.i64_in _ (by omega)
            have hU : Hid (upB (xa, ya) (xb, yb) (x, y) = (decide (ya ≤ y) && (decide (y < yb) && decide (0 < (xb - xa) * (y - ya) - (x - xa) * (yb - ya))))) := rfl
            have hD : Hid (downB (xa, ya) (xb, yb) (x, y) = (decide (yb ≤ y) && (decide (y < ya) && decide ((xb - xa) * (y - ya) - (x - xa) * (yb - ya) < 0)))) := rfl
            unfold windE at hs1
            generalize upB (xa, ya) (xb, yb) (x, y) = up at hU hs1
            generalize downB (xa, ya) (xb, yb) (x, y) = dn at hD hs1
            generalize windN n pf (x, y) k = S at hS hs1 ⊢
            generalize hsd : (xb - xa) * (y - ya) - (x - xa) * (yb - ya) = sd at hU hD v7 
            have w5 : IntKind.i64.wrap (S + 1) = S + 1 := IntWalk.i64_in _ (by omega)
            have w6 : IntKind.i64.wrap (S - 1) = S - 1 := IntWalk.i64_in _ (by omega)
            have w7 : IntKind.i64.wrap (S + 1 - 1) = S + 1 - 1 := IntWalk.i64_in _ (by omega)
            clear m1 m2 px py ax ay bx byy
            go_upto_region 12 with fail
            go_cut [77] (fun s u => s = .bool up ∧ u = w3)
            case first =>
              by_cases c1 : ya ≤ y
              · by_cases c2 : y < yb
                · by_cases c3 : 0 < sd
                  all_goals
                    go_wp2_with fail
                    go_meet
                    exact ⟨by rw [unhide hU]; simp <;> omega, rfl⟩
                · go_wp2_with fail
                  go_meet
                  exact ⟨by rw [unhide hU]; simp <;> omega, rfl⟩
              · go_wp2_with fail
                go_meet
                exact ⟨by rw [unhide hU]; simp <;> omega, rfl⟩
            case rest =>
              obtain ⟨rfl, rfl⟩ := hcut
              clear hU
              obtain ⟨T, hT⟩ : ∃ T, Hid (T = S + if up = true then 1 else 0) := ⟨_, rfl⟩
              have hTb : S ≤ T ∧ T ≤ S + 1 := by rw [unhide hT]; split <;> omega
              have w8 : IntKind.i64.wrap (T - 1) = T - 1 := IntWalk.i64_in _ (by omega)
              go_upto_if 77 with fail
              go_cut [5] (fun s u => s = .int .i64 T ∧ u = wc)
              case first =>
                cases up with
                | true =>
                  go_wp2_with fail
                  go_meet
                  exact ⟨by rw [unhide hT]; rfl, rfl⟩
                | false =>
                  go_wp2_with fail
                  go_meet
                  exact ⟨by rw [unhide hT]; simp, rfl⟩
              case rest =>
                obtain ⟨rfl, rfl⟩ := hcut
                go_upto_region 14 with fail
                go_cut [95] (fun s u => s = .bool dn ∧ u = wc)
                case first =>
                  by_cases c1 : yb ≤ y
                  · by_cases c2 : y < ya
                    · by_cases c3 : sd < 0
                      all_goals
                        go_wp2_with fail
                        go_meet
                        exact ⟨by rw [unhide hD]; simp <;> omega, rfl⟩
                    · go_wp2_with fail
                      go_meet
                      exact ⟨by rw [unhide hD]; simp <;> omega, rfl⟩
                  · go_wp2_with fail
                    go_meet
                    exact ⟨by rw [unhide hD]; simp <;> omega, rfl⟩
                case rest =>
                  obtain ⟨rfl, rfl⟩ := hcut
                  clear hD
                  have hfin : Hid (windN n pf (x, y) (k + 1) = T - if dn = true then 1 else 0) := by unfold Hid; rw [unhide hs1, unhide hT]; omega
                  cases dn with
                  | true =>
                    go_wp2_with fail
                    go_roundw
                    case rel => exact ⟨k + 1, by omega, by go_num, by rw [unhide hfin]; rfl, fun j hj => (by by_cases e : j = k; (subst e; exact unhide hka); exact unhide HK j (by omega)), HB, R3⟩
                    case measure => simp [intOf]; omega
                  | false =>
                    go_wp2_with fail
                    go_roundw
                    case rel => exact ⟨k + 1, by omega, by go_num, by rw [unhide hfin]; simp, fun j hj => (by by_cases e : j = k; (subst e; exact unhide hka); exact unhide HK j (by omega)), HB, R3⟩
                    case measure => simp [intOf]; omega
      · have hke : k = n := by omega
        subst hke
        have hki : ¬ (k : Int) < (k : Int) := by omega
        have hR := hide (unhide hall (unhide HK))
        go_wp2_with fail
        go_ret
        exact ⟨congrArg (fun z => Ending.returned (.int .i64 z)) (unhide hR).symm, unhide HB⟩

theorem tm2 (S : Int) : S.tmod 2 = 0 ↔ S % 2 = 0 :=
  ⟨fun h => Int.emod_eq_zero_of_dvd (Int.dvd_of_tmod_eq_zero h), fun h => Int.tmod_eq_zero_of_dvd (Int.dvd_of_emod_eq_zero h)⟩

set_option maxHeartbeats 4000000 in
set_option maxRecDepth 100000 in
theorem specCovers_any (N : Nat) (ln : Nat → Nat) (pf : Nat → Nat → Pt) (hN : N ≤ 1048576) (hl : ∀ i, i < N → ln i ≤ 1048576) (la : Option Addr) (lc : Nat) (even : Bool) (x y : Int) (w : World) (L : ∀ i, i < N → LArg w la i (ln i) (pf i)) :
    Calls Tryz.prog 140 #[.slice la N lc, .bool even, .agg #[.int .i64 x, .int .i64 y]] w fun e w' => e = .returned (.bool (coversB N ln pf even (x, y))) ∧ Below w.heap.size w w' := by
  have hbd := hide (fun k hk => coverN_bd hl pf (x, y) k hk)
  have EW := hide (fun i (hi : i < N) (a : Option Addr) (c : Nat) u P => specWindOf_any (pf i) a (ln i) c (hl i hi) x y u P)
  have hwb := hide (fun i (hi : i < N) => (⟨windP_bd (ln i) (pf i) (x, y), hl i hi⟩ : (-(ln i : Int) ≤ windP (ln i) (pf i) (x, y) ∧ windP (ln i) (pf i) (x, y) ≤ (ln i : Int)) ∧ ln i ≤ 1048576))
  obtain ⟨C, hC⟩ : ∃ C, Hid (coversB N ln pf even (x, y) = C) := ⟨_, rfl⟩
  rw [unhide hC]
  have hs0 : Hid (∀ k, coverN ln pf (x, y) (k + 1) = coverN ln pf (x, y) k + windP (ln k) (pf k) (x, y)) := fun k => rfl
  replace L := hide L
  replace hl := hide hl
  go_enter Tryz.func140, Tryz.ntmps140
  go_wp2_with fail
  have R5 := hide (new_row w (.cells #[.int .i64 x, .int .i64 y] 48))
  have HB := hide (al1_below w (.cells #[.int .i64 x, .int .i64 y] 48))
  obtain ⟨b5, hb5⟩ : ∃ b, Hid (b = w.heap.size) := ⟨_, rfl⟩
  rw [← unhide hb5] at R5
  rw [← unhide hb5]
  generalize w.alloc (.cells #[.int .i64 x, .int .i64 y] 48) = W at R5 HB ⊢
  go_loopw [7, 8] (fun s i u => ∃ k : Nat, k ≤ N ∧ i = .int .i64 k ∧ s = .int .i64 (coverN ln pf (x, y) k) ∧ Hid (Below w.heap.size w u) ∧ Hid (u.heap[b5]? = some (.cells #[.int .i64 x, .int .i64 y] 48 (0, 0)))) (fun _ i _ => N - (intOf i).toNat)
  case atStart => exact ⟨0, Nat.zero_le _, rfl, rfl, HB, R5⟩
  case round =>
    clear HB R5
    obtain ⟨k, hk, rfl, rfl, HB, R5⟩ := hrel
    have hS := unhide hbd k hk
    by_cases hlt : k < N
    · obtain ⟨s0, o0, xx, cx, rfl, g0, hP⟩ := (unhide L k hlt).next (unhide HB)
      have hw1 := unhide hwb k hlt
      have hs1 := hide (unhide hs0 k)
      have E1 := hide (fun u (hu : Below wr.heap.size wr u) => unhide EW k hlt xx cx u (fun j hj => (hP j hj).next hu))
      generalize windP (ln k) (pf k) (x, y) = wk at hw1 hs1 E1
      generalize coverN ln pf (x, y) k = S at hS hs1 ⊢
      obtain ⟨lk, hlk⟩ : ∃ lk, Hid (ln k = lk) := ⟨_, rfl⟩
      rw [unhide hlk] at g0 E1 hw1
      have w1' : IntKind.i64.wrap (S + wk) = S + wk := IntWalk.i64_in _ (by omega)
      have hki : (k : Int) < (N : Int) := by omega
      have K0 : Hid (∀ u, Below wr.heap.size wr u → (u.cell? ⟨s0, o0 + k, none⟩ = some (.slice xx lk cx) ∧ u.cell? ⟨b5, 0, none⟩ = some (.int .i64 x) ∧ u.cell? ⟨b5, 1, none⟩ = some (.int .i64 y) ∧ Below wr.heap.size wr u)) := fun u h => ⟨kc h g0, (row2 (row_next h (unhide R5))).1, (row2 (row_next h (unhide R5))).2, h⟩
      have kS : Hid (∀ u, (u.cell? ⟨s0, o0 + k, none⟩ = some (.slice xx lk cx) ∧ u.cell? ⟨b5, 0, none⟩ = some (.int .i64 x) ∧ u.cell? ⟨b5, 1, none⟩ = some (.int .i64 y) ∧ Below wr.heap.size wr u) → Below wr.heap.size wr u) := fun u h => h.2.2.2
      clear g0 hP hw1
      go_upto_region 5 with fail
      go_region_held3 (fun u => u.cell? ⟨s0, o0 + k, none⟩ = some (.slice xx lk cx) ∧ u.cell? ⟨b5, 0, none⟩ = some (.int .i64 x) ∧ u.cell? ⟨b5, 1, none⟩ = some (.int .i64 y) ∧ Below wr.heap.size wr u) ((first | with_reducible assumption | (refine unhide K0 _ ?_; first | with_reducible exact (Below.refl _ _).drew | with_reducible assumption))) (first | (go_at_call 141; go_fit (unhide E1 _ (unhide kS _ (by with_reducible assumption))); rintro r w4 ⟨rfl, hb4⟩; have h4 := below_after hb4 (unhide kS _ (by with_reducible assumption)) (Nat.le_refl _)))
      all_goals
        have h9 := unhide kS _ (by with_reducible assumption)
        go_wp2_with fail
        go_roundw
        case rel => exact ⟨k + 1, by omega, by go_num, by rw [unhide hs1], below_two (unhide HB) h9, row_next h9 (unhide R5)⟩
        case measure => simp [intOf]; omega
    · have hke : k = N := by omega
      subst hke
      have hki : ¬ (k : Int) < (k : Int) := by omega
      unfold coversB at hC
      generalize coverN ln pf (x, y) k = S at hS hC ⊢
      cases even with
      | true =>
        have hC2 : Hid (decide (S % 2 ≠ 0) = C) := unhide hC
        by_cases h2 : S.tmod 2 = 0
        · have h3 : S % 2 = 0 := (tm2 S).1 h2
          go_wp2_with fail
          go_ret
          exact ⟨congrArg (fun z => Ending.returned (.bool z)) (by rw [← unhide hC2]; simp [h3]), unhide HB⟩
        · have h3 : ¬ S % 2 = 0 := fun h => h2 ((tm2 S).2 h)
          have h4 : (S.tmod 2 == 0) = false := beq_eq_false_iff_ne.2 h2
          go_wp2_with fail
          go_ret
          exact ⟨congrArg (fun z => Ending.returned (.bool z)) (by rw [← unhide hC2]; simp [h2, h3]), unhide HB⟩
      | false =>
        have hC2 : Hid (decide (S ≠ 0) = C) := unhide hC
        by_cases h2 : S = 0
        · go_wp2_with fail
          go_ret
          exact ⟨congrArg (fun z => Ending.returned (.bool z)) (by rw [← unhide hC2]; simp [h2]), unhide HB⟩
        · have h4 : (S == 0) = false := beq_eq_false_iff_ne.2 h2
          go_wp2_with fail
          go_ret
          exact ⟨congrArg (fun z => Ending.returned (.bool z)) (by rw [← unhide hC2]; simp [h2]), unhide HB⟩

set_option maxHeartbeats 4000000 in
theorem specCountOf_any (b : Int) (w : World) :
    Calls Tryz.prog 29 #[.int .i64 b] w fun e w' => e = .returned (.int .i64 (countI b)) ∧ w' = w := by
  have EI := hide (l01In_any b 0 15)
  have hC : Hid (countI b = if inB b 0 15 = true then b % 2 + b / 2 % 2 + b / 4 % 2 + b / 8 else 0) := rfl
  have hin : Hid (inB b 0 15 = true → 0 ≤ b ∧ b ≤ 15) := fun h => inB_true.1 h
  rw [unhide hC]
  generalize inB b 0 15 = ok at EI hin ⊢
  cases ok with
  | false =>
    go_enter Tryz.func29, Tryz.ntmps29
    go_wp2_with fail
    go_fit (unhide EI _)
    rintro r w1 ⟨rfl, rfl⟩
    go_wp2_with fail
    go_ret
    exact ⟨rfl, rfl⟩
  | true =>
    have hb := unhide hin rfl
    rw [if_pos rfl]
    have h16 : b = 0 ∨ b = 1 ∨ b = 2 ∨ b = 3 ∨ b = 4 ∨ b = 5 ∨ b = 6 ∨ b = 7 ∨ b = 8 ∨ b = 9 ∨ b = 10 ∨ b = 11 ∨ b = 12 ∨ b = 13 ∨ b = 14 ∨ b = 15 := by omega
    clear hC hin hb
    rcases h16 with rfl | rfl | rfl | rfl | rfl | rfl | rfl | rfl | rfl | rfl | rfl | rfl | rfl | rfl | rfl | rfl
    all_goals
      go_enter Tryz.func29, Tryz.ntmps29
      go_wp2_with fail
      go_fit (unhide EI _)
      rintro r w1 ⟨rfl, rfl⟩
      go_wp2_with fail
      go_ret
      exact ⟨rfl, rfl⟩
end Go.Proofs.YthelfgippiimiabGreat

/-
  The specification's PaintMask.
-/
namespace Go.Proofs.YthelfgippiimiabGreat
open Go.RowKit
set_option linter.unusedVariables false

theorem grown_put4 {a w : World} {g : Nat} (h : a.grownBy w (some g)) (o0 o1 o2 o3 : Nat) (x y z u : Value) : a.grownBy ((((w.setCell ⟨g, o0, none⟩ x).setCell ⟨g, o1, none⟩ y).setCell ⟨g, o2, none⟩ z).setCell ⟨g, o3, none⟩ u) (some g) := by
  refine ⟨h.os, h.tape, h.output, ?_, fun k hk hne => ?_⟩
  · rw [setc_size, setc_size, setc_size, setc_size]; exact h.size
  · have hne' : k ≠ g := fun e => hne (by rw [e])
    rw [← h.block k hk hne]
    simp [World.setCell, Array.getElem?_modify, Ne.symm hne']
theorem row_grown {u v : World} {b g : Nat} {o : Obj} (hg : u.grownBy v (some g)) (hne : b ≠ g) (h : u.heap[b]? = some o) : v.heap[b]? = some o := (hg.block b (heap_lt h) (fun e => hne (Option.some.inj e))).trans h
theorem cell_grown {u v : World} {g : Nat} {p : Addr} {x : Value} (hg : u.grownBy v (some g)) (hne : p.block ≠ g) (h : u.cell? p = some x) : v.cell? p = some x := hg.cell h (fun e => hne (Option.some.inj e))

set_option maxHeartbeats 16000000 in
set_option maxRecDepth 100000 in
theorem specPaintMask_any (x y : Int) (f : Nat → B4) (ao : Option Addr) (n cp : Nat) (hn : n ≤ 1048576) (hao : ao = none → cp = 0)
    (a b c d : Int) (g : Nat → Int) (mo : Option Addr) (m mc : Nat) (hm : m ≤ 1048576) (pk pr pg pb pa pr2 pg2 pb2 pa2 pfx pfy ptx pty : Int) (mode fade : Int) (w : World) (P : ∀ i, i < n → ClAt w ao i (f i)) (Q : ∀ i, i < m → IntAt w mo i (g i)) :
    Calls Tryz.prog 7 #[.agg #[.int .i64 x, .int .i64 y, .slice ao n cp], .agg #[.int .i64 a, .int .i64 b, .int .i64 c, .int .i64 d, .slice mo m mc], .agg #[.int .i64 pk, .int .i64 pr, .int .i64 pg, .int .i64 pb, .int .i64 pa, .int .i64 pr2, .int .i64 pg2, .int .i64 pb2, .int .i64 pa2, .int .i64 pfx, .int .i64 pfy, .int .i64 ptx, .int .i64 pty], .int .i64 mode, .int .i64 fade] w fun r w' => SurfRes w r w' x y n (paintOn ⟨pk, ⟨pr, pg, pb, pa⟩, ⟨pr2, pg2, pb2, pa2⟩, pfx, pfy, ptx, pty⟩ a b c d m g mode fade x y n f) := by
  have EC := hide (fun u => specL14Copy_any x y f ao n cp hn hao u)
  have ES := hide (fun u => specSurfaceOk_any x y f ao n cp hn u)
  have EM := hide (fun u => specMaskOk_any a b c d g mo m mc hm u)
  have EP := hide (specPaintOk_any pk pr pg pb pa pr2 pg2 pb2 pa2 pfx pfy ptx pty)
  have EB := hide (fun u px py hM => specL11Bits_any a b c d g mo m mc hm px py u hM)
  have EA := hide (fun px py => specColorAt_any pk pr pg pb pa pr2 pg2 pb2 pa2 pfx pfy ptx pty px py)
  replace P := hide P
  replace Q := hide Q
  have hF : Hid (paintOn ⟨pk, ⟨pr, pg, pb, pa⟩, ⟨pr2, pg2, pb2, pa2⟩, pfx, pfy, ptx, pty⟩ a b c d m g mode fade x y n f = if surfOkB x y n f = true ∧ maskOkB a b c d m g = true ∧ paintOkB ⟨pk, ⟨pr, pg, pb, pa⟩, ⟨pr2, pg2, pb2, pa2⟩, pfx, pfy, ptx, pty⟩ = true then paintC ⟨pk, ⟨pr, pg, pb, pa⟩, ⟨pr2, pg2, pb2, pa2⟩, pfx, pfy, ptx, pty⟩ a b c d g mode fade x f else f) := rfl
  have hS : Hid (surfOkB x y n f = true → SOk x y n f) := fun h => surfOk_iff.1 h
  have hM : Hid (maskOkB a b c d m g = true → MOk a b c d m g) := fun h => maskOk_iff.1 h
  generalize paintOn ⟨pk, ⟨pr, pg, pb, pa⟩, ⟨pr2, pg2, pb2, pa2⟩, pfx, pfy, ptx, pty⟩ a b c d m g mode fade x y n f = F at hF ⊢
  generalize surfOkB x y n f = X1 at ES hF hS
  generalize maskOkB a b c d m g = X2 at EM hF hM
  generalize paintOkB ⟨pk, ⟨pr, pg, pb, pa⟩, ⟨pr2, pg2, pb2, pa2⟩, pfx, pfy, ptx, pty⟩ = X3 at EP hF
  unfold SurfRes
  go_enter Tryz.func7, Tryz.ntmps7
  go_upto_region 1 with fail
  have R5 := hide (al4_0 w (.cells #[.int .i64 x, .int .i64 y, .slice ao n cp] 40) (.cells #[.int .i64 a, .int .i64 b, .int .i64 c, .int .i64 d, .slice mo m mc] 45) (.cells #[.int .i64 pk, .int .i64 pr, .int .i64 pg, .int .i64 pb, .int .i64 pa, .int .i64 pr2, .int .i64 pg2, .int .i64 pb2, .int .i64 pa2, .int .i64 pfx, .int .i64 pfy, .int .i64 ptx, .int .i64 pty] 50) (.cells #[.int .i64 0, .int .i64 0, .slice none 0 0] 40))
  have R6 := hide (al4_1 w (.cells #[.int .i64 x, .int .i64 y, .slice ao n cp] 40) (.cells #[.int .i64 a, .int .i64 b, .int .i64 c, .int .i64 d, .slice mo m mc] 45) (.cells #[.int .i64 pk, .int .i64 pr, .int .i64 pg, .int .i64 pb, .int .i64 pa, .int .i64 pr2, .int .i64 pg2, .int .i64 pb2, .int .i64 pa2, .int .i64 pfx, .int .i64 pfy, .int .i64 ptx, .int .i64 pty] 50) (.cells #[.int .i64 0, .int .i64 0, .slice none 0 0] 40))
  have R7 := hide (al4_2 w (.cells #[.int .i64 x, .int .i64 y, .slice ao n cp] 40) (.cells #[.int .i64 a, .int .i64 b, .int .i64 c, .int .i64 d, .slice mo m mc] 45) (.cells #[.int .i64 pk, .int .i64 pr, .int .i64 pg, .int .i64 pb, .int .i64 pa, .int .i64 pr2, .int .i64 pg2, .int .i64 pb2, .int .i64 pa2, .int .i64 pfx, .int .i64 pfy, .int .i64 ptx, .int .i64 pty] 50) (.cells #[.int .i64 0, .int .i64 0, .slice none 0 0] 40))
  have R10 := hide (al4_3 w (.cells #[.int .i64 x, .int .i64 y, .slice ao n cp] 40) (.cells #[.int .i64 a, .int .i64 b, .int .i64 c, .int .i64 d, .slice mo m mc] 45) (.cells #[.int .i64 pk, .int .i64 pr, .int .i64 pg, .int .i64 pb, .int .i64 pa, .int .i64 pr2, .int .i64 pg2, .int .i64 pb2, .int .i64 pa2, .int .i64 pfx, .int .i64 pfy, .int .i64 ptx, .int .i64 pty] 50) (.cells #[.int .i64 0, .int .i64 0, .slice none 0 0] 40))
  have HB := hide (al4_below w (.cells #[.int .i64 x, .int .i64 y, .slice ao n cp] 40) (.cells #[.int .i64 a, .int .i64 b, .int .i64 c, .int .i64 d, .slice mo m mc] 45) (.cells #[.int .i64 pk, .int .i64 pr, .int .i64 pg, .int .i64 pb, .int .i64 pa, .int .i64 pr2, .int .i64 pg2, .int .i64 pb2, .int .i64 pa2, .int .i64 pfx, .int .i64 pfy, .int .i64 ptx, .int .i64 pty] 50) (.cells #[.int .i64 0, .int .i64 0, .slice none 0 0] 40))
  obtain ⟨b10, hb10⟩ : ∃ b, Hid (b = w.heap.size + 1 + 1 + 1) := ⟨_, rfl⟩
  obtain ⟨b7, hb7⟩ : ∃ b, Hid (b = w.heap.size + 1 + 1) := ⟨_, rfl⟩
  obtain ⟨b6, hb6⟩ : ∃ b, Hid (b = w.heap.size + 1) := ⟨_, rfl⟩
  obtain ⟨b5, hb5⟩ : ∃ b, Hid (b = w.heap.size) := ⟨_, rfl⟩
  have lz : Hid (w.heap.size ≤ b10) := by unfold Hid; rw [unhide hb10]; omega
  rw [← unhide hb10] at R10
  rw [← unhide hb7] at R7
  rw [← unhide hb6] at R6
  rw [← unhide hb5] at R5
  rw [← unhide hb10, ← unhide hb7, ← unhide hb6, ← unhide hb5]
  generalize (((w.alloc (.cells #[.int .i64 x, .int .i64 y, .slice ao n cp] 40)).alloc (.cells #[.int .i64 a, .int .i64 b, .int .i64 c, .int .i64 d, .slice mo m mc] 45)).alloc (.cells #[.int .i64 pk, .int .i64 pr, .int .i64 pg, .int .i64 pb, .int .i64 pa, .int .i64 pr2, .int .i64 pg2, .int .i64 pb2, .int .i64 pa2, .int .i64 pfx, .int .i64 pfy, .int .i64 ptx, .int .i64 pty] 50)).alloc (.cells #[.int .i64 0, .int .i64 0, .slice none 0 0] 40) = W at R5 R6 R7 R10 HB ⊢
  clear hb10 hb7 hb6 hb5
  obtain ⟨p0, p1, p2⟩ := row3 (unhide R5)
  have l0 := hide (show b5 < W.heap.size ∧ b6 < W.heap.size ∧ b7 < W.heap.size ∧ b10 < W.heap.size from ⟨heap_lt (unhide R5), heap_lt (unhide R6), heap_lt (unhide R7), heap_lt (unhide R10)⟩)
  have lW := hide (unhide HB).size
  have E2 := hide (unhide EC W (fun i hi => (unhide P i hi).next (unhide HB)))
  go_wp2_with fail
  go_fit (unhide E2)
  rintro r w1 ⟨gp, gc, rfl, hO, hb⟩
  replace R5 := hide (row_next hb (unhide R5))
  replace R6 := hide (row_next hb (unhide R6))
  replace R7 := hide (row_next hb (unhide R7))
  replace R10 := hide (row_next hb (unhide R10))
  replace HB := hide (below_two (unhide HB) hb)
  clear hb p0 p1 p2 E2
  replace hO := hide hO
  go_upto_region 2 with fail
  have R11 := hide (new_row w1 (.cells #[.int .i64 x, .int .i64 y, .slice gp n gc] 40))
  replace R5 := hide (row_next (al1_below w1 (.cells #[.int .i64 x, .int .i64 y, .slice gp n gc] 40)) (unhide R5))
  replace R6 := hide (row_next (al1_below w1 (.cells #[.int .i64 x, .int .i64 y, .slice gp n gc] 40)) (unhide R6))
  replace R7 := hide (row_next (al1_below w1 (.cells #[.int .i64 x, .int .i64 y, .slice gp n gc] 40)) (unhide R7))
  replace R10 := hide (row_next (al1_below w1 (.cells #[.int .i64 x, .int .i64 y, .slice gp n gc] 40)) (unhide R10))
  replace HB := hide (below_two (unhide HB) (al1_below w1 (.cells #[.int .i64 x, .int .i64 y, .slice gp n gc] 40)))
  have l1 := hide (show ∀ k, (Value.slice gp n gc).ownBlock = some k → W.heap.size ≤ k ∧ k < w1.heap.size from (unhide hO).lt)
  replace hO := hide ((unhide hO).next (al1_below w1 (.cells #[.int .i64 x, .int .i64 y, .slice gp n gc] 40)))
  generalize w1.alloc (.cells #[.int .i64 x, .int .i64 y, .slice gp n gc] 40) = W1 at R5 R6 R7 R10 R11 HB hO ⊢
  generalize w1.heap.size = b11 at R11 l1 ⊢
  obtain ⟨p0, p1, p2⟩ := row3 (unhide R5)
  have E2 := hide (unhide ES W1 (fun i hi => (unhide P i hi).next (unhide HB)))
  go_wp2_with fail
  go_fit (unhide E2)
  rintro r w2 ⟨rfl, hb⟩
  replace R5 := hide (row_next hb (unhide R5))
  replace R6 := hide (row_next hb (unhide R6))
  replace R7 := hide (row_next hb (unhide R7))
  replace R10 := hide (row_next hb (unhide R10))
  replace R11 := hide (row_next hb (unhide R11))
  replace HB := hide (below_two (unhide HB) hb)
  replace hO := hide ((unhide hO).next hb)
  clear hb p0 p1 p2 E2
  cases X1 with
  | false =>
    have hFn := hide (show F = f by rw [unhide hF, if_neg (by rintro ⟨h, _⟩; cases h)])
    obtain ⟨e0, e1, e2⟩ := row3 (unhide R10)
    obtain ⟨f0, f1, f2⟩ := frozen3 (unhide R10)
    obtain ⟨q0, q1, q2⟩ := row3 (unhide R11)
    go_wp2_with fail
    refine bodyPost_ret (v := .agg #[.int .i64 x, .int .i64 y, .slice gp n gc]) (by simp [results, Tryz.results7, go_sem, e0, e1, e2]) rfl ⟨gp, gc, rfl, ?_, below_put3 (unhide HB) (unhide lz) _ _ _⟩
    obtain ⟨xs, o1, hx1⟩ := unhide hO
    rw [unhide hFn]
    exact ⟨xs, own_low (own_put3 o1 (fun k hk => by have := (unhide l1 k hk).1; have := unhide l0; omega) _ _ _) (unhide lW), hx1⟩
  | true =>
  obtain ⟨p0, p1, p2, p3, p4⟩ := row5m (unhide R6)
  have E2 := hide (unhide EM w2 (fun i hi => (unhide Q i hi).next (unhide HB)))
  go_wp2_with fail
  go_fit (unhide E2)
  rintro r w3 ⟨rfl, hb⟩
  replace R5 := hide (row_next hb (unhide R5))
  replace R6 := hide (row_next hb (unhide R6))
  replace R7 := hide (row_next hb (unhide R7))
  replace R10 := hide (row_next hb (unhide R10))
  replace R11 := hide (row_next hb (unhide R11))
  replace HB := hide (below_two (unhide HB) hb)
  replace hO := hide ((unhide hO).next hb)
  clear hb p0 p1 p2 p3 p4 E2
  cases X2 with
  | false =>
    have hFn := hide (show F = f by rw [unhide hF, if_neg (by rintro ⟨_, h, _⟩; cases h)])
    obtain ⟨e0, e1, e2⟩ := row3 (unhide R10)
    obtain ⟨f0, f1, f2⟩ := frozen3 (unhide R10)
    obtain ⟨q0, q1, q2⟩ := row3 (unhide R11)
    go_wp2_with fail
    refine bodyPost_ret (v := .agg #[.int .i64 x, .int .i64 y, .slice gp n gc]) (by simp [results, Tryz.results7, go_sem, e0, e1, e2]) rfl ⟨gp, gc, rfl, ?_, below_put3 (unhide HB) (unhide lz) _ _ _⟩
    obtain ⟨xs, o1, hx1⟩ := unhide hO
    rw [unhide hFn]
    exact ⟨xs, own_low (own_put3 o1 (fun k hk => by have := (unhide l1 k hk).1; have := unhide l0; omega) _ _ _) (unhide lW), hx1⟩
  | true =>
  obtain ⟨p0, p1, p2, p3, p4, p5, p6, p7, p8, p9, p10, p11, p12⟩ := row13 (unhide R7)
  go_wp2_with fail
  go_fit (unhide EP _)
  rintro r w4 ⟨rfl, hb⟩
  replace R5 := hide (row_next hb (unhide R5))
  replace R6 := hide (row_next hb (unhide R6))
  replace R7 := hide (row_next hb (unhide R7))
  replace R10 := hide (row_next hb (unhide R10))
  replace R11 := hide (row_next hb (unhide R11))
  replace HB := hide (below_two (unhide HB) hb)
  replace hO := hide ((unhide hO).next hb)
  clear hb p0 p1 p2 p3 p4 p5 p6 p7 p8 p9 p10 p11 p12
  cases X3 with
  | false =>
    have hFn := hide (show F = f by rw [unhide hF, if_neg (by rintro ⟨_, _, h⟩; cases h)])
    obtain ⟨e0, e1, e2⟩ := row3 (unhide R10)
    obtain ⟨f0, f1, f2⟩ := frozen3 (unhide R10)
    obtain ⟨q0, q1, q2⟩ := row3 (unhide R11)
    go_wp2_with fail
    refine bodyPost_ret (v := .agg #[.int .i64 x, .int .i64 y, .slice gp n gc]) (by simp [results, Tryz.results7, go_sem, e0, e1, e2]) rfl ⟨gp, gc, rfl, ?_, below_put3 (unhide HB) (unhide lz) _ _ _⟩
    obtain ⟨xs, o1, hx1⟩ := unhide hO
    rw [unhide hFn]
    exact ⟨xs, own_low (own_put3 o1 (fun k hk => by have := (unhide l1 k hk).1; have := unhide l0; omega) _ _ _) (unhide lW), hx1⟩
  | true =>
  have sok := unhide hS (by trivial)
  have mok := hide (unhide hM (by trivial))
  have hFy := hide (show F = paintC ⟨pk, ⟨pr, pg, pb, pa⟩, ⟨pr2, pg2, pb2, pa2⟩, pfx, pfy, ptx, pty⟩ a b c d g mode fade x f by rw [unhide hF, if_pos ⟨by trivial, by trivial, by trivial⟩])
  clear hF hS hM EP EM ES EC
  have sle := sok.le
  obtain ⟨sx, sy, sn, slaid⟩ := sok
  replace slaid := hide slaid
  have hpos : ∃ gb, gp = some ⟨gb, 0, none⟩ := by
    obtain ⟨xs, o1, _⟩ := unhide hO
    obtain ⟨gb, cap, e, _⟩ := own_at o1 (by omega)
    cases e
    exact ⟨gb, rfl⟩
  obtain ⟨gb, rfl⟩ := hpos
  have lg := hide (show W.heap.size ≤ gb ∧ gb < b11 from unhide l1 gb rfl)
  clear l1
  replace sn := hide sn
  obtain ⟨G, hG⟩ : ∃ G, Hid (paintC ⟨pk, ⟨pr, pg, pb, pa⟩, ⟨pr2, pg2, pb2, pa2⟩, pfx, pfy, ptx, pty⟩ a b c d g mode fade x f = G) := ⟨_, rfl⟩
  have hGk : Hid (∀ k : Nat, G k = inkC ⟨pk, ⟨pr, pg, pb, pa⟩, ⟨pr2, pg2, pb2, pa2⟩, pfx, pfy, ptx, pty⟩ mode fade (atI a b c d g ((k : Int) % x) ((k : Int) / x)) ((k : Int) % x) ((k : Int) / x) (f k)) := fun k => by rw [← unhide hG]; rfl
  rw [unhide hG] at hFy
  clear hG
  have hO0 := hide (show ColsV w4 W.heap.size (.slice (some ⟨gb, 0, none⟩) n gc) n (upTo G f 0) by rw [upTo_none]; exact unhide hO)
  go_upto_region 4 with fail
  go_wp2_with fail
  go_loopw [12] (fun i u => ∃ (j k : Nat), (j : Int) ≤ y ∧ i = .int .i64 j ∧ Hid ((k : Int) = (j : Int) * x) ∧ Hid (u.heap[b5]? = some (.cells #[.int .i64 x, .int .i64 y, .slice ao n cp] 40 (0, 0))) ∧ Hid (u.heap[b6]? = some (.cells #[.int .i64 a, .int .i64 b, .int .i64 c, .int .i64 d, .slice mo m mc] 45 (0, 0))) ∧ Hid (u.heap[b7]? = some (.cells #[.int .i64 pk, .int .i64 pr, .int .i64 pg, .int .i64 pb, .int .i64 pa, .int .i64 pr2, .int .i64 pg2, .int .i64 pb2, .int .i64 pa2, .int .i64 pfx, .int .i64 pfy, .int .i64 ptx, .int .i64 pty] 50 (0, 0))) ∧ Hid (u.heap[b10]? = some (.cells #[.int .i64 0, .int .i64 0, .slice none 0 0] 40 (0, 0))) ∧ Hid (u.heap[b11]? = some (.cells #[.int .i64 x, .int .i64 y, .slice (some ⟨gb, 0, none⟩) n gc] 40 (0, 0))) ∧ Hid (Below w.heap.size w u) ∧ Hid (ColsV u W.heap.size (.slice (some ⟨gb, 0, none⟩) n gc) n (upTo G f k))) (fun i _ => y.toNat - (intOf i).toNat)
  case atStart => exact ⟨0, 0, by omega, rfl, by show ((0 : Nat) : Int) = ((0 : Nat) : Int) * x; omega, R5, R6, R7, R10, R11, HB, hO0⟩
  case round =>
    clear R5 R6 R7 R10 R11 HB hO hO0
    obtain ⟨j, k0, hj, rfl, hk0, R5, R6, R7, R10, R11, HB, hO⟩ := hrel
    obtain ⟨p0, p1, p2⟩ := row3 (unhide R5)
    by_cases hlt : (j : Int) < y
    · go_upto_region 7 with fail
      clear p0 p1 p2
      go_wp2_with fail
      go_loopw [13] (fun i u => ∃ (q k : Nat), (q : Int) ≤ x ∧ i = .int .i64 q ∧ Hid ((k : Int) = (j : Int) * x + (q : Int)) ∧ Hid (u.heap[b5]? = some (.cells #[.int .i64 x, .int .i64 y, .slice ao n cp] 40 (0, 0))) ∧ Hid (u.heap[b6]? = some (.cells #[.int .i64 a, .int .i64 b, .int .i64 c, .int .i64 d, .slice mo m mc] 45 (0, 0))) ∧ Hid (u.heap[b7]? = some (.cells #[.int .i64 pk, .int .i64 pr, .int .i64 pg, .int .i64 pb, .int .i64 pa, .int .i64 pr2, .int .i64 pg2, .int .i64 pb2, .int .i64 pa2, .int .i64 pfx, .int .i64 pfy, .int .i64 ptx, .int .i64 pty] 50 (0, 0))) ∧ Hid (u.heap[b10]? = some (.cells #[.int .i64 0, .int .i64 0, .slice none 0 0] 40 (0, 0))) ∧ Hid (u.heap[b11]? = some (.cells #[.int .i64 x, .int .i64 y, .slice (some ⟨gb, 0, none⟩) n gc] 40 (0, 0))) ∧ Hid (Below w.heap.size w u) ∧ Hid (ColsV u W.heap.size (.slice (some ⟨gb, 0, none⟩) n gc) n (upTo G f k))) (fun i _ => x.toNat - (intOf i).toNat)
      case atStart => exact ⟨0, k0, by omega, rfl, by have := unhide hk0; show (k0 : Int) = _ + ((0 : Nat) : Int); omega, R5, R6, R7, R10, R11, HB, hO⟩
      case round =>
        clear R5 R6 R7 R10 R11 HB hO hk0 k0
        obtain ⟨q, k, hq, rfl, hkk, R5, R6, R7, R10, R11, HB, hO⟩ := hrel
        by_cases hqx : (q : Int) < x
        · have hplace := pix_place (y := y) sx.1 (show (0 : Int) ≤ q by omega) (show (q : Int) ≤ x - 1 by omega) (show (0 : Int) ≤ j by omega) (show (j : Int) ≤ y - 1 by omega)
          have hkn : k < n := by have := unhide hkk; have := unhide sn; omega
          have hback := sq_back (x := x) (px := q) (py := j) sx.1 (by omega) hqx
          have v1 : IntKind.i64.wrap ((j : Int) * x) = (j : Int) * x := IntWalk.i64_in _ (by have := unhide sn; omega)
          have v2 : IntKind.i64.wrap ((j : Int) * x + (q : Int)) = (k : Int) := by rw [unhide hkk]; exact IntWalk.i64_in _ (by have := unhide sn; omega)
          have hGq := hide (unhide hGk k)
          rw [show (k : Int) % x = q by rw [unhide hkk]; exact hback.1, show (k : Int) / x = j by rw [unhide hkk]; exact hback.2] at hGq
          clear hback hplace
          have hkk' := hide (show ((k + 1 : Nat) : Int) = (j : Int) * x + ((q + 1 : Nat) : Int) by have := unhide hkk; omega)
          clear hkk
          have vq : IntKind.i64.wrap ((q : Int) + 1) = (q : Int) + 1 := IntWalk.i64_in _ (by omega)
          have EB1 := hide (unhide EB wr q j (fun i hi => (unhide Q i hi).next (unhide HB)) (unhide mok))
          generalize atI a b c d g q j = bits at EB1 hGq
          obtain ⟨p0, p1, p2⟩ := row3 (unhide R5)
          obtain ⟨m0, m1, m2, m3, m4⟩ := row5m (unhide R6)
          go_wp2_with fail
          go_fit (unhide EB1)
          rintro r w5 ⟨rfl, hb⟩
          replace R5 := hide (row_next hb (unhide R5))
          replace R6 := hide (row_next hb (unhide R6))
          replace R7 := hide (row_next hb (unhide R7))
          replace R10 := hide (row_next hb (unhide R10))
          replace R11 := hide (row_next hb (unhide R11))
          replace HB := hide (below_two (unhide HB) hb)
          replace hO := hide ((unhide hO).next hb)
          clear hb p0 p1 p2 m0 m1 m2 m3 m4 EB1
          by_cases hbits : bits = 0
          · have hsame : Hid (ColsV w5 W.heap.size (.slice (some ⟨gb, 0, none⟩) n gc) n (upTo G f (k + 1))) := by
              unfold Hid
              rw [upTo_same (by rw [unhide hGq]; unfold inkC; rw [if_pos hbits])]
              exact unhide hO
            subst hbits
            clear hGq hO
            go_wp2_with fail
            go_roundw
            case rel => exact ⟨q + 1, k + 1, by omega, by go_num, hkk', R5, R6, R7, R10, R11, HB, hsame⟩
            case measure => simp [intOf]; omega
          · have hbb : (bits == 0) = false := beq_eq_false_iff_ne.2 hbits
            have hGb := hide (show G k = blendC mode (fadeC (thinC (colorAtC ⟨pk, ⟨pr, pg, pb, pa⟩, ⟨pr2, pg2, pb2, pa2⟩, pfx, pfy, ptx, pty⟩ q j) (countI bits)) fade) (f k) by rw [unhide hGq]; unfold inkC; rw [if_neg hbits])
            clear hGq
            have EA1 := hide (unhide EA q j)
            have EN1 := hide (specCountOf_any bits)
            generalize colorAtC ⟨pk, ⟨pr, pg, pb, pa⟩, ⟨pr2, pg2, pb2, pa2⟩, pfx, pfy, ptx, pty⟩ q j = C at EA1 hGb
            generalize countI bits = cnt at EN1 hGb
            obtain ⟨C0, C1, C2, C3⟩ := C
            dsimp only at EA1
            have ET1 := hide (specThin_any C0 C1 C2 C3 cnt)
            generalize thinC ⟨C0, C1, C2, C3⟩ cnt = T at ET1 hGb
            obtain ⟨T0, T1, T2, T3⟩ := T
            dsimp only at ET1
            have EF1 := hide (specFade_any T0 T1 T2 T3 fade)
            generalize fadeC ⟨T0, T1, T2, T3⟩ fade = D at EF1 hGb
            obtain ⟨D0, D1, D2, D3⟩ := D
            dsimp only at EF1
            obtain ⟨s0, s1, s2, s3, s4, s5, s6, s7, s8, s9, s10, s11, s12⟩ := row13 (unhide R7)
            go_wp2_with fail
            go_fit (unhide EA1 _)
            rintro r w6 ⟨rfl, hb⟩
            replace R5 := hide (row_next hb (unhide R5))
            replace R6 := hide (row_next hb (unhide R6))
            replace R7 := hide (row_next hb (unhide R7))
            replace R10 := hide (row_next hb (unhide R10))
            replace R11 := hide (row_next hb (unhide R11))
            replace HB := hide (below_two (unhide HB) hb)
            replace hO := hide ((unhide hO).next hb)
            clear hb s0 s1 s2 s3 s4 s5 s6 s7 s8 s9 s10 s11 s12
            go_wp2_with fail
            go_fit (unhide EN1 _)
            rintro r u1 ⟨rfl, hu⟩
            rw [hu]
            clear hu u1
            go_wp2_with fail
            go_fit (unhide ET1 _)
            rintro r w7 ⟨rfl, hb⟩
            replace R5 := hide (row_next hb (unhide R5))
            replace R6 := hide (row_next hb (unhide R6))
            replace R7 := hide (row_next hb (unhide R7))
            replace R10 := hide (row_next hb (unhide R10))
            replace R11 := hide (row_next hb (unhide R11))
            replace HB := hide (below_two (unhide HB) hb)
            replace hO := hide ((unhide hO).next hb)
            clear hb
            go_wp2_with fail
            go_fit (unhide EF1 _)
            rintro r w8 ⟨rfl, hb⟩
            replace R5 := hide (row_next hb (unhide R5))
            replace R6 := hide (row_next hb (unhide R6))
            replace R7 := hide (row_next hb (unhide R7))
            replace R10 := hide (row_next hb (unhide R10))
            replace R11 := hide (row_next hb (unhide R11))
            replace HB := hide (below_two (unhide HB) hb)
            replace hO := hide ((unhide hO).next hb)
            clear hb EA1 EN1 ET1 EF1
            go_upto_region 13 with fail
            have R15 := hide (new_row w8 (.cells #[.int .i64 D0, .int .i64 D1, .int .i64 D2, .int .i64 D3] 47))
            replace R5 := hide (row_next (al1_below w8 (.cells #[.int .i64 D0, .int .i64 D1, .int .i64 D2, .int .i64 D3] 47)) (unhide R5))
            replace R6 := hide (row_next (al1_below w8 (.cells #[.int .i64 D0, .int .i64 D1, .int .i64 D2, .int .i64 D3] 47)) (unhide R6))
            replace R7 := hide (row_next (al1_below w8 (.cells #[.int .i64 D0, .int .i64 D1, .int .i64 D2, .int .i64 D3] 47)) (unhide R7))
            replace R10 := hide (row_next (al1_below w8 (.cells #[.int .i64 D0, .int .i64 D1, .int .i64 D2, .int .i64 D3] 47)) (unhide R10))
            replace R11 := hide (row_next (al1_below w8 (.cells #[.int .i64 D0, .int .i64 D1, .int .i64 D2, .int .i64 D3] 47)) (unhide R11))
            replace HB := hide (below_two (unhide HB) (al1_below w8 (.cells #[.int .i64 D0, .int .i64 D1, .int .i64 D2, .int .i64 D3] 47)))
            replace hO := hide ((unhide hO).next (al1_below w8 (.cells #[.int .i64 D0, .int .i64 D1, .int .i64 D2, .int .i64 D3] 47)))
            have l15 := hide (show gb < w8.heap.size by
              obtain ⟨xs, o1, _⟩ := unhide hO
              have h1 := (o1.lt gb rfl).2
              have h2 := unhide lg
              have h3 := heap_lt (unhide R11)
              have h4 := heap_lt (unhide R15)
              simp at h1 h3
              omega)
            generalize w8.alloc (.cells #[.int .i64 D0, .int .i64 D1, .int .i64 D2, .int .i64 D3] 47) = W8 at R5 R6 R7 R10 R11 R15 HB hO ⊢
            generalize w8.heap.size = b15 at R15 l15 ⊢
            have HP0 := unhide P k hkn
            have HP := HP0.next (unhide HB)
            obtain ⟨zz, hzz⟩ : ∃ zz, Hid (f k = zz) := ⟨_, rfl⟩
            rw [unhide hzz] at HP HP0
            obtain ⟨z0, z1, z2, z3⟩ := zz
            obtain ⟨s0, o0, rfl, g0, g1, g2, g3⟩ := HP
            obtain ⟨s0', o0', ee, g0', _⟩ := HP0
            cases ee
            have ls0 := hide (show s0 < w.heap.size from block_lt_of_cell g0')
            clear g0'
            dsimp only at g0 g1 g2 g3
            replace g0 := hide g0
            replace g1 := hide g1
            replace g2 := hide g2
            replace g3 := hide g3
            have EBL := hide (specBlend_any mode D0 D1 D2 D3 z0 z1 z2 z3)
            rw [unhide hzz] at hGb
            generalize blendC mode ⟨D0, D1, D2, D3⟩ ⟨z0, z1, z2, z3⟩ = BB at EBL hGb
            obtain ⟨B0, B1, B2, B3⟩ := BB
            dsimp only at EBL
            have hkn' : (k : Int) < (n : Int) := by omega
            have hkn0 : ¬ (k : Int) < 0 := by omega
            have k0 := hide (show ∀ u, W8.grownBy u (some gb) → (u.cell? ⟨b11, 2, none⟩ = some (.slice (some ⟨gb, 0, none⟩) n gc) ∧ u.cell? ⟨b5, 0, none⟩ = some (.int .i64 x) ∧ u.cell? ⟨b5, 2, none⟩ = some (.slice (some ⟨s0, o0, none⟩) n cp) ∧ u.cell? ⟨b15, 0, none⟩ = some (.int .i64 D0) ∧ u.cell? ⟨b15, 1, none⟩ = some (.int .i64 D1) ∧ u.cell? ⟨b15, 2, none⟩ = some (.int .i64 D2) ∧ u.cell? ⟨b15, 3, none⟩ = some (.int .i64 D3) ∧ u.cell? ⟨s0, o0 + k * 4, none⟩ = some (.int .i64 z0) ∧ u.cell? ⟨s0, o0 + k * 4 + 1, none⟩ = some (.int .i64 z1) ∧ u.cell? ⟨s0, o0 + k * 4 + 2, none⟩ = some (.int .i64 z2) ∧ u.cell? ⟨s0, o0 + k * 4 + 3, none⟩ = some (.int .i64 z3) ∧ W8.grownBy u (some gb)) from fun u h => by
              obtain ⟨p0, p1, p2⟩ := row3 (row_grown h (by have := unhide l0; have := unhide lg; omega) (unhide R5))
              obtain ⟨r0, r1, r2⟩ := row3 (row_grown h (by have := unhide lg; omega) (unhide R11))
              obtain ⟨d0, d1, d2, d3⟩ := row4 (row_grown h (by have := unhide l15; omega) (unhide R15))
              have hs : s0 ≠ gb := by have := unhide ls0; have := unhide lg; have := unhide lW; omega
              exact ⟨r2, p0, p2, d0, d1, d2, d3, cell_grown h hs (unhide g0), cell_grown h hs (unhide g1), cell_grown h hs (unhide g2), cell_grown h hs (unhide g3), h⟩)
            have k00 := hide (unhide k0 _ (show W8.grownBy W8.drew (some gb) from ⟨rfl, rfl, rfl, Nat.le_refl _, fun _ _ _ => rfl⟩))
            go_region_held3 (fun u => u.cell? ⟨b11, 2, none⟩ = some (.slice (some ⟨gb, 0, none⟩) n gc) ∧ u.cell? ⟨b5, 0, none⟩ = some (.int .i64 x) ∧ u.cell? ⟨b5, 2, none⟩ = some (.slice (some ⟨s0, o0, none⟩) n cp) ∧ u.cell? ⟨b15, 0, none⟩ = some (.int .i64 D0) ∧ u.cell? ⟨b15, 1, none⟩ = some (.int .i64 D1) ∧ u.cell? ⟨b15, 2, none⟩ = some (.int .i64 D2) ∧ u.cell? ⟨b15, 3, none⟩ = some (.int .i64 D3) ∧ u.cell? ⟨s0, o0 + k * 4, none⟩ = some (.int .i64 z0) ∧ u.cell? ⟨s0, o0 + k * 4 + 1, none⟩ = some (.int .i64 z1) ∧ u.cell? ⟨s0, o0 + k * 4 + 2, none⟩ = some (.int .i64 z2) ∧ u.cell? ⟨s0, o0 + k * 4 + 3, none⟩ = some (.int .i64 z3) ∧ W8.grownBy u (some gb)) ((first | with_reducible exact unhide k00 | (with_reducible refine unhide k0 _ ?_; first | with_reducible assumption | (with_reducible refine grown_put4 ?_ _ _ _ _ _ _ _ _; with_reducible assumption)))) (first | (go_at_call 25; go_fit (unhide EBL _); rintro r w9 ⟨rfl, hb9⟩; have h9 := below_undrew hb9; clear hb9; have hg9 := grown_of_below h9 (some gb); obtain ⟨xs9, o9, x9⟩ := (unhide hO).next h9; obtain ⟨y0, y1, y2, y3, t0, t1, t2, t3⟩ := own_cell4 o9 hkn; have f0 := o9.frozenAt (k * 4); have f1 := o9.frozenAt (k * 4 + 1); have f2 := o9.frozenAt (k * 4 + 2); have f3 := o9.frozenAt (k * 4 + 3); replace o9 := hide o9; replace x9 := hide x9))
            all_goals
              go_wp2_with fail
              go_roundw
              case rel =>
                have hgg := grown_put4 hg9 (k * 4) (k * 4 + 1) (k * 4 + 2) (k * 4 + 3) (.int .i64 B0) (.int .i64 B1) (.int .i64 B2) (.int .i64 B3)
                have n5 : b5 ≠ gb ∧ b6 ≠ gb ∧ b7 ≠ gb ∧ b10 ≠ gb ∧ b11 ≠ gb := by have := unhide l0; have := unhide lg; omega
                refine ⟨q + 1, k + 1, by omega, by go_num, hkk', row_grown hgg n5.1 (unhide R5), row_grown hgg n5.2.1 (unhide R6), row_grown hgg n5.2.2.1 (unhide R7), row_grown hgg n5.2.2.2.1 (unhide R10), row_grown hgg n5.2.2.2.2 (unhide R11), below_at4 (below_two (unhide HB) h9) (by have := unhide lg; have := unhide lW; omega) _ _ _ _ _ _ _ _, ?_⟩
                refine ⟨_, own_put4 (unhide o9) _ _ _ _, ?_⟩
                rw [upTo_step, unhide hGb]
                exact bx_put (unhide x9) (unhide o9).1 hkn ⟨B0, B1, B2, B3⟩
              case measure => simp [intOf]; omega
        · have hqe : (q : Int) = x := by omega
          have hk1 := hide (show (k : Int) = ((j + 1 : Nat) : Int) * x by have := unhide hkk; rw [this, hqe]; rw [show ((j + 1 : Nat) : Int) = (j : Int) + 1 by omega, Int.add_mul, Int.one_mul])
          clear hkk
          have vj : IntKind.i64.wrap ((j : Int) + 1) = (j : Int) + 1 := IntWalk.i64_in _ (by omega)
          obtain ⟨p0, p1, p2⟩ := row3 (unhide R5)
          go_wp2_with fail
          go_roundw
          case rel => exact ⟨j + 1, k, by omega, by go_num, hk1, R5, R6, R7, R10, R11, HB, hO⟩
          case measure => simp [intOf]; omega
    · have hje : (j : Int) = y := by omega
      have hkn := hide (show k0 = n by have h1 := unhide hk0; have h2 := unhide sn; rw [hje, Int.mul_comm] at h1; omega)
      obtain ⟨e0, e1, e2⟩ := row3 (unhide R10)
      obtain ⟨f0, f1, f2⟩ := frozen3 (unhide R10)
      obtain ⟨q0, q1, q2⟩ := row3 (unhide R11)
      go_wp2_with fail
      refine bodyPost_ret (v := .agg #[.int .i64 x, .int .i64 y, .slice (some ⟨gb, 0, none⟩) n gc]) (by simp [results, Tryz.results7, go_sem, e0, e1, e2]) rfl ⟨_, gc, rfl, ?_, below_put3 (unhide HB) (unhide lz) _ _ _⟩
      obtain ⟨xs, o1, hx1⟩ := unhide hO
      rw [unhide hkn] at hx1
      rw [unhide hFy]
      exact ⟨xs, own_low (own_put3 o1 (fun k hk => by have e : gb = k := Option.some.inj hk; have := unhide lg; have := unhide l0; omega) _ _ _) (unhide lW), fun i hi => by have := hx1 i hi; rw [upTo_all hi] at this; exact this⟩
end Go.Proofs.YthelfgippiimiabGreat

/-
  The laws' own words on masks: handed over, measured, held against each other, marked and held.
-/
namespace Go.Proofs.YthelfgippiimiabGreat
open Go.RowKit
set_option linter.unusedVariables false

/-- A list of numbers of one's own. -/
def IntsV (w : World) (base : Nat) (v : Value) (n : Nat) (f : Nat → Int) : Prop := ∃ xs, w.ownsRow base 3 1 v n xs ∧ IxAt xs f n
def MarkedI (w : World) (base : Nat) (v : Value) (n : Nat) : Prop := ∃ xs, w.ownsRow base 3 1 v n xs ∧ Ramp xs 1 n
theorem IntsV.next {w w' : World} {base n : Nat} {v : Value} {f : Nat → Int} (h : IntsV w base v n f) (hb : Below w.heap.size w w') : IntsV w' base v n f := let ⟨xs, h1, h2⟩ := h; ⟨xs, own_below h1 hb, h2⟩
theorem MarkedI.next {w w' : World} {base n : Nat} {v : Value} (h : MarkedI w base v n) (hb : Below w.heap.size w w') : MarkedI w' base v n := let ⟨xs, h1, h2⟩ := h; ⟨xs, own_below h1 hb, h2⟩
theorem IntsV.ints {w : World} {base n c : Nat} {a : Option Addr} {f : Nat → Int} (h : IntsV w base (.slice a n c) n f) : ∀ i, i < n → IntAt w a i (f i) := let ⟨_, h1, h2⟩ := h; own_ix h1 h2
theorem IntsV.cap {w : World} {base n c : Nat} {a : Option Addr} {f : Nat → Int} (h : IntsV w base (.slice a n c) n f) : n ≤ c := by
  obtain ⟨xs, ⟨_, h | ⟨g, cap, cur, hv, _, _, hc, _⟩⟩, _⟩ := h
  · cases h.1; omega
  · cases hv; exact hc
theorem IntsV.lt {w : World} {base n : Nat} {v : Value} {f : Nat → Int} (h : IntsV w base v n f) : ∀ k, v.ownBlock = some k → base ≤ k ∧ k < w.heap.size := let ⟨_, h1, _⟩ := h; h1.lt
theorem IntsV.low {w : World} {base base' n : Nat} {v : Value} {f : Nat → Int} (h : IntsV w base v n f) (hb : base' ≤ base) : IntsV w base' v n f := let ⟨xs, h1, h2⟩ := h; ⟨xs, own_low h1 hb, h2⟩
theorem IntsV.kept {w w' : World} {base n : Nat} {v : Value} {f : Nat → Int} {row : Option Nat} (h : IntsV w base v n f) (hg : w.grownBy w' row) (ap : v.ownBlock = none ∨ v.ownBlock ≠ row) : IntsV w' base v n f := let ⟨xs, h1, h2⟩ := h; ⟨xs, h1.kept hg ap, h2⟩
theorem MaskRes.open {w w' : World} {r : Ending} {a b c d : Int} {n : Nat} {f : Nat → Int} (h : MaskRes w r w' a b c d n f) : ∃ p cp, r = .returned (.agg #[.int .i64 a, .int .i64 b, .int .i64 c, .int .i64 d, .slice p n cp]) ∧ IntsV w' w.heap.size (.slice p n cp) n f ∧ Below w.heap.size w w' :=
  let ⟨p, cp, h1, h2, h3⟩ := h; ⟨p, cp, h1, ⟨_, h2, ix_listN f n⟩, h3⟩
/-- What an earlier call owns and what a later one owns lie apart. -/
theorem IntsV.far {w1 w2 : World} {b0 B n m : Nat} {u v : Value} {f g : Nat → Int} (h0 : IntsV w1 b0 u n f) (h1 : IntsV w2 B v m g) (hB : w1.heap.size ≤ B) : u.ownBlock = none ∨ u.ownBlock ≠ v.ownBlock :=
  let ⟨_, o0, _⟩ := h0; let ⟨_, o1, _⟩ := h1; far_apart o0 o1 hB

set_option maxHeartbeats 1000000 in
theorem szMask_any (a b c d : Int) (ao : Option Addr) (n cap : Nat) (z : Int) (hz : 0 ≤ z ∧ z ≤ 1048576) (hm : n ≤ maxLen) (w : World) :
    Calls Tryz.prog 6 #[.agg #[.int .i64 a, .int .i64 b, .int .i64 c, .int .i64 d, .slice ao n cap], .int .i64 z] w fun r w' => r = .returned (.int .i64 (if z < n then -1 else z - n)) ∧ Below w.heap.size w w' := by
  have E := hide (szIntS_any ao n cap z hz hm)
  by_cases hlt : z < n
  · rw [if_pos hlt] at E ⊢
    go_enter Tryz.func6, Tryz.ntmps6
    go_wp2_with fail
    go_fit (unhide E _)
    rintro r w1 ⟨rfl, rfl⟩
    go_wp2_with fail
    go_ret
    exact ⟨rfl, al1_below _ _⟩
  · rw [if_neg hlt] at E ⊢
    have h0 : ¬ z - (n : Int) < 0 := by omega
    go_enter Tryz.func6, Tryz.ntmps6
    go_wp2_with fail
    go_fit (unhide E _)
    rintro r w1 ⟨rfl, rfl⟩
    go_wp2_with fail
    go_ret
    exact ⟨rfl, al1_below _ _⟩

theorem put5_4row {u : World} {b : Nat} {x0 x1 x2 x3 x4 y0 y1 y2 y3 : Value} {t : TypeId} (h : u.heap[b]? = some (.cells #[x0, x1, x2, x3, x4] t (0, 0))) : ((((u.setCell ⟨b, 0, none⟩ y0).setCell ⟨b, 1, none⟩ y1).setCell ⟨b, 2, none⟩ y2).setCell ⟨b, 3, none⟩ y3).heap[b]? = some (.cells #[y0, y1, y2, y3, x4] t (0, 0)) := by
  simp [World.setCell, Array.getElem?_modify, h]

set_option maxHeartbeats 4000000 in
set_option maxRecDepth 100000 in
theorem toMask_any (a b c d : Int) (f : Nat → Int) (ao : Option Addr) (n cap : Nat) (hn : n ≤ 1048576) (w : World) (P : ∀ i, i < n → IntAt w ao i (f i)) :
    Calls Tryz.prog 9 #[.agg #[.int .i64 a, .int .i64 b, .int .i64 c, .int .i64 d, .slice ao n cap]] w fun r w' => ∃ s, r = .returned (.agg #[.int .i64 a, .int .i64 b, .int .i64 c, .int .i64 d, .slice (some ⟨s, 0, none⟩) n n]) ∧ IntsV w' w.heap.size (.slice (some ⟨s, 0, none⟩) n n) n f ∧ Below w.heap.size w w' := by
  have E1 := hide (fun u => toIntS_own f ao n cap hn u)
  have E0 := hide (toBox_any a b c d)
  replace P := hide P
  go_enter Tryz.func9, Tryz.ntmps9
  go_upto_region 2 with fail
  have R0 := hide (al3_0 w (.cells #[.int .i64 a, .int .i64 b, .int .i64 c, .int .i64 d, .slice ao n cap] 29) (.cells #[.int .i64 0, .int .i64 0, .int .i64 0, .int .i64 0, .slice none 0 0] 45) (.cells #[.int .i64 0, .int .i64 0, .int .i64 0, .int .i64 0, .slice none 0 0] 45))
  have R1 := hide (al3_1 w (.cells #[.int .i64 a, .int .i64 b, .int .i64 c, .int .i64 d, .slice ao n cap] 29) (.cells #[.int .i64 0, .int .i64 0, .int .i64 0, .int .i64 0, .slice none 0 0] 45) (.cells #[.int .i64 0, .int .i64 0, .int .i64 0, .int .i64 0, .slice none 0 0] 45))
  have R2 := hide (al3_2 w (.cells #[.int .i64 a, .int .i64 b, .int .i64 c, .int .i64 d, .slice ao n cap] 29) (.cells #[.int .i64 0, .int .i64 0, .int .i64 0, .int .i64 0, .slice none 0 0] 45) (.cells #[.int .i64 0, .int .i64 0, .int .i64 0, .int .i64 0, .slice none 0 0] 45))
  have HB := hide (al3_below w (.cells #[.int .i64 a, .int .i64 b, .int .i64 c, .int .i64 d, .slice ao n cap] 29) (.cells #[.int .i64 0, .int .i64 0, .int .i64 0, .int .i64 0, .slice none 0 0] 45) (.cells #[.int .i64 0, .int .i64 0, .int .i64 0, .int .i64 0, .slice none 0 0] 45))
  obtain ⟨b2, hb2⟩ : ∃ b, Hid (b = w.heap.size + 1 + 1) := ⟨_, rfl⟩
  obtain ⟨b1, hb1⟩ : ∃ b, Hid (b = w.heap.size + 1) := ⟨_, rfl⟩
  obtain ⟨b0, hb0⟩ : ∃ b, Hid (b = w.heap.size) := ⟨_, rfl⟩
  rw [← unhide hb2] at R2
  rw [← unhide hb1] at R1
  rw [← unhide hb0] at R0
  rw [← unhide hb2, ← unhide hb1, ← unhide hb0]
  have hne : Hid (b0 ≠ b2 ∧ b1 ≠ b2 ∧ w.heap.size ≤ b2 ∧ w.heap.size ≤ b1) := by unfold Hid; rw [unhide hb2, unhide hb1, unhide hb0]; omega
  generalize ((w.alloc (.cells #[.int .i64 a, .int .i64 b, .int .i64 c, .int .i64 d, .slice ao n cap] 29)).alloc (.cells #[.int .i64 0, .int .i64 0, .int .i64 0, .int .i64 0, .slice none 0 0] 45)).alloc (.cells #[.int .i64 0, .int .i64 0, .int .i64 0, .int .i64 0, .slice none 0 0] 45) = W at R0 R1 R2 HB ⊢
  obtain ⟨q0, q1, q2, q3, q4⟩ := row5m (unhide R0)
  go_wp2_with fail
  go_fit (unhide E0 _)
  rintro r w1 ⟨rfl, hb⟩
  replace R0 := hide (row_next hb (unhide R0))
  replace R1 := hide (row_next hb (unhide R1))
  replace R2 := hide (row_next hb (unhide R2))
  replace HB := hide (below_two (unhide HB) hb)
  clear hb q0 q1 q2 q3 q4
  obtain ⟨c0, c1, c2, c3, c4⟩ := row5m (unhide R2)
  obtain ⟨f0, f1, f2, f3, f4⟩ := frozen5 (unhide R2)
  go_upto_region 3 with fail
  clear c0 c1 c2 c3 c4 f0 f1 f2 f3 f4
  replace R0 := hide (put4_other (b := b2) (x := .int .i64 a) (y := .int .i64 b) (z := .int .i64 c) (t := .int .i64 d) (unhide hne).1 (unhide R0))
  replace R1 := hide (put4_other (b := b2) (x := .int .i64 a) (y := .int .i64 b) (z := .int .i64 c) (t := .int .i64 d) (unhide hne).2.1 (unhide R1))
  replace R2 := hide (put5_4row (y0 := .int .i64 a) (y1 := .int .i64 b) (y2 := .int .i64 c) (y3 := .int .i64 d) (unhide R2))
  replace HB := hide (below_put4 (unhide HB) (unhide hne).2.2.1 (.int .i64 a) (.int .i64 b) (.int .i64 c) (.int .i64 d))
  generalize (((w1.setCell ⟨b2, 0, none⟩ (.int .i64 a)).setCell ⟨b2, 1, none⟩ (.int .i64 b)).setCell ⟨b2, 2, none⟩ (.int .i64 c)).setCell ⟨b2, 3, none⟩ (.int .i64 d) = W2 at R0 R1 R2 HB ⊢
  obtain ⟨q0, q1, q2, q3, q4⟩ := row5m (unhide R0)
  have E2 := hide (unhide E1 W2 (fun i hi => (unhide P i hi).next (unhide HB)))
  go_wp2_with fail
  go_fit (unhide E2)
  rintro r w3 ⟨rfl, ⟨xs, o1, x1⟩, hb⟩
  have l2 := hide (show b2 < W2.heap.size from heap_lt (unhide R2))
  have l1 := hide (show b1 < W2.heap.size from heap_lt (unhide R1))
  have lw := hide (show w.heap.size ≤ W2.heap.size from (unhide HB).size)
  replace R1 := hide (row_next hb (unhide R1))
  replace R2 := hide (row_next hb (unhide R2))
  replace HB := hide (below_two (unhide HB) hb)
  clear hb q0 q1 q2 q3 q4 R0
  generalize W2.heap.size = s at o1 l1 l2 lw ⊢
  replace o1 := hide o1
  replace x1 := hide x1
  obtain ⟨c0, c1, c2, c3, c4⟩ := row5m (unhide R2)
  obtain ⟨f0, f1, f2, f3, f4⟩ := frozen5 (unhide R2)
  obtain ⟨d0, d1, d2, d3, d4⟩ := row5m (set5_4 (v := .slice (some ⟨s, 0, none⟩) n n) (unhide R2))
  obtain ⟨g0, g1, g2, g3, g4⟩ := frozen5 (setc_other (b := b2) (j := 4) (v := .slice (some ⟨s, 0, none⟩) n n) (unhide hne).2.1 (unhide R1))
  obtain ⟨k0, k1, k2, k3, k4⟩ := row5m (setc_other (b := b2) (j := 4) (v := .slice (some ⟨s, 0, none⟩) n n) (unhide hne).2.1 (unhide R1))
  go_wp2_with fail
  refine bodyPost_ret (v := .agg #[.int .i64 a, .int .i64 b, .int .i64 c, .int .i64 d, .slice (some ⟨s, 0, none⟩) n n]) (by simp [results, Tryz.results9, go_sem, k0, k1, k2, k3, k4]) rfl ⟨s, rfl, ⟨xs, ?_, unhide x1⟩, ?_⟩
  · exact own_low (own_put5 (own_setc_ne (unhide o1) (fun k hk => by have := ((unhide o1).lt k hk).1; have := unhide l2; omega)) (fun k hk => by have := ((unhide o1).lt k hk).1; have := unhide l1; omega) _ _ _ _ _) (unhide lw)
  · exact below_put5 ((unhide HB).setCell (p := ⟨b2, 4, none⟩) (unhide hne).2.2.1 _) (unhide hne).2.2.2 _ _ _ _ _

set_option maxHeartbeats 2000000 in
theorem eqMask_same (a b c d : Int) (f : Nat → Int) (ao bo : Option Addr) (n cap cap' : Nat) (hn : n ≤ 1048576) (w : World) (P : ∀ i, i < n → IntAt w ao i (f i)) (P' : ∀ i, i < n → IntAt w bo i (f i)) :
    Calls Tryz.prog 13 #[.agg #[.int .i64 a, .int .i64 b, .int .i64 c, .int .i64 d, .slice ao n cap], .agg #[.int .i64 a, .int .i64 b, .int .i64 c, .int .i64 d, .slice bo n cap']] w fun r w' => r = .returned (.bool true) ∧ Below w.heap.size w w' := by
  have E0 := hide (eqBox_same a b c d)
  have E1 := hide (fun u => eqIntS_arg f ao bo n cap cap' hn u)
  replace P := hide P
  replace P' := hide P'
  go_enter Tryz.func13, Tryz.ntmps13
  go_upto_region 1 with fail
  have R1 := hide (al2_0 w (.cells #[.int .i64 a, .int .i64 b, .int .i64 c, .int .i64 d, .slice ao n cap] 45) (.cells #[.int .i64 a, .int .i64 b, .int .i64 c, .int .i64 d, .slice bo n cap'] 45))
  have R2 := hide (al2_1 w (.cells #[.int .i64 a, .int .i64 b, .int .i64 c, .int .i64 d, .slice ao n cap] 45) (.cells #[.int .i64 a, .int .i64 b, .int .i64 c, .int .i64 d, .slice bo n cap'] 45))
  have HB := hide (al2_below w (.cells #[.int .i64 a, .int .i64 b, .int .i64 c, .int .i64 d, .slice ao n cap] 45) (.cells #[.int .i64 a, .int .i64 b, .int .i64 c, .int .i64 d, .slice bo n cap'] 45))
  generalize (w.alloc (.cells #[.int .i64 a, .int .i64 b, .int .i64 c, .int .i64 d, .slice ao n cap] 45)).alloc (.cells #[.int .i64 a, .int .i64 b, .int .i64 c, .int .i64 d, .slice bo n cap'] 45) = W at R1 R2 HB ⊢
  obtain ⟨q0, q1, q2, q3, q4⟩ := row5m (unhide R1)
  obtain ⟨r0, r1, r2, r3, r4⟩ := row5m (unhide R2)
  go_wp2_with fail
  go_fit (unhide E0 _)
  rintro r w1 ⟨rfl, hb⟩
  replace R1 := hide (row_next hb (unhide R1))
  replace R2 := hide (row_next hb (unhide R2))
  replace HB := hide (below_two (unhide HB) hb)
  clear hb q0 q1 q2 q3 q4 r0 r1 r2 r3 r4
  obtain ⟨q0, q1, q2, q3, q4⟩ := row5m (unhide R1)
  obtain ⟨r0, r1, r2, r3, r4⟩ := row5m (unhide R2)
  have E2 := hide (unhide E1 w1 (fun i hi => (unhide P i hi).next (unhide HB)) (fun i hi => (unhide P' i hi).next (unhide HB)))
  go_wp2_with fail
  go_fit (unhide E2)
  rintro r w2 ⟨rfl, hb⟩
  replace HB := hide (below_two (unhide HB) hb)
  clear hb
  go_wp2_with fail
  go_ret
  exact ⟨rfl, unhide HB⟩

set_option maxHeartbeats 1000000 in
theorem markMask_any (a b c d : Int) (v : Value) (base n : Nat) (xs : List Value) (k : Nat) (hk : k ≤ 10000000) (hn : n ≤ 1048576) (w : World) (h : w.ownsRow base 3 1 v n xs) :
    Calls Tryz.prog 15 #[.agg #[.int .i64 a, .int .i64 b, .int .i64 c, .int .i64 d, v], .int .i64 k] w fun r w' => r = .returned (.int .i64 ((k + n : Nat) : Int)) ∧ (∃ ys, w'.ownsRow base 3 1 v n ys ∧ Ramp ys k n) ∧ w.grownBy w' v.ownBlock := by
  have E1 := hide (fun u zs (hu : u.ownsRow base 3 1 v n zs) => markIntS_any v base n k zs (by omega) hn u hu)
  obtain ⟨p, cap, rfl⟩ := own_form h
  have H := hide h
  clear h
  generalize ((k + n : Nat) : Int) = q at E1 ⊢
  go_enter Tryz.func15, Tryz.ntmps15
  go_wp2_with fail
  have G := hide (show w.grownBy (w.alloc (.cells #[.int .i64 a, .int .i64 b, .int .i64 c, .int .i64 d, .slice p n cap] 45)) (Value.slice p n cap).ownBlock from grown_of_below (below_new _ (Below.refl _ _) (Nat.le_refl _)) _)
  go_fit (unhide E1 _ _ (own_below (unhide H) (al1_below w (.cells #[.int .i64 a, .int .i64 b, .int .i64 c, .int .i64 d, .slice p n cap] 45))))
  rintro r w1 ⟨rfl, ⟨ys, o1, r1⟩, g1⟩
  replace G := hide (grown_trans (unhide G) g1)
  replace o1 := hide o1
  replace r1 := hide r1
  clear g1
  go_wp2_with fail
  go_ret
  exact ⟨rfl, ⟨ys, unhide o1, unhide r1⟩, unhide G⟩

end Go.Proofs.YthelfgippiimiabGreat
